/-
  A record is read off a row.
  The records of a row of bytes.
  Load of any bytes.
  Copy of any dictionary.
  What is loaded of what was saved.
  Entries and Maps that came in, as the rows read them.
  A dictionary that New made, as a whole; steps that came in.
  How many bytes entries and steps have.
  DictNone returns true, where the example works.
  A value is written: it is read then, and all others are what they were.
-/
import Derived.Test.YtpjmebaipnpegaaDoorHf
import Derived.Lib.EndianBits
import Derived.Test.YtpjmebaipnpegaaDoorTk9
import Derived.Test.YtpjmebaipnpegaaDoorHc
import Derived.WalkSmall
import Derived.Test.YtpjmebaipnpegaaDoorGa
import Derived.WalkKit
import Derived.ProofKit
import Derived.OpenShut
import Derived.SizedLaws
import Derived.BigQuiet
import Derived.Test.YtpjmebaipnpegaaDoorDn
namespace Go.Proofs.YtpjmebaipnpegaaDoor
open Go.RowKit

abbrev rcC (i s : Int) (a : Option Addr) (n c : Nat) : Array Value := #[.int .u16 i, .int .u8 s, .slice a n c]
theorem sizeRc : (Tryd.prog.info? 68).map (·.size) = some 3 := by kernel_rfl
theorem aggRc : ∀ w, (isAgg 68).run Tryd.prog w = .ok true w := fun w => by simp [isAgg, run_underlying Tryd.underlying68]
theorem loadRc (w : World) (B : Nat) (i s : Int) (a : Option Addr) (n c : Nat) (T : TypeId) (hb : w.heap[B]? = some (.cells (rcC i s a n c) T (0, 0))) : (loadVar 68 ⟨B, 0, none⟩).run Tryd.prog w = .ok (.agg (rcC i s a n c)) w :=
  load_part 68 3 sizeRc aggRc w B 0 [.int .u16 i, .int .u8 s, .slice a n c] T hb (by simp)
theorem storeRc (w : World) (B : Nat) (C : Array Value) (i s : Int) (a : Option Addr) (n c : Nat) (T : TypeId) (hb : w.heap[B]? = some (.cells C T (0, 0))) (hC : C.size = 3) : (storeVar 68 ⟨B, 0, none⟩ (.agg (rcC i s a n c))).run Tryd.prog w = .ok () (w.setRow B (rcC i s a n c)) :=
  run_storeVar_row w B T 68 C (rcC i s a n c) hb sizeRc hC (by simp [Value.oneCell'])
/-- Two bytes as a number. -/
def w2 (x y : Int) : Int := x + 256 * y
theorem or16 {y x : Int} (hy0 : 0 ≤ y) (hy : y < 256) (hx0 : 0 ≤ x) (hx1 : x < 256) : bits .or .u16 y (x * 256) = w2 y x := by
  have := bits_join_low .u16 16 (by decide) (fun n h0 h1 => by simp [IntKind.wrap, IntKind.bits, IntKind.signed]; omega) 8 y (x * 256) hy0 (by omega) (by omega) (by omega) (by omega) (by omega)
  rw [this]; unfold w2; omega
theorem or64 {y x : Int} (hy0 : 0 ≤ y) (hy : y < 256) (hx0 : 0 ≤ x) (hx1 : x < 256) : bits .or .i64 y (x * 256) = w2 y x := by
  have := bits_join_low .i64 62 (by decide) (fun n h0 h1 => by rw [IntKind.wrap_i64]; omega) 8 y (x * 256) hy0 (by omega) (by omega) (by omega) (by omega) (by omega)
  rw [this]; unfold w2; omega

set_option linter.unusedSimpArgs false in
set_option maxHeartbeats 4000000 in
set_option maxRecDepth 100000 in
theorem rd1_short (q : Nat) (a : Option Addr) (len cap : Nat) (w : World) (hq : w.heap[q]? = some (.cells #[.slice a len cap] 34 (0, 0))) (hl : len < 5) :
    Calls Tryd.prog 38 #[.pointer (some ⟨q, 0, none⟩)] w fun e w' => e = .returned (.tuple #[.agg (rcC 0 0 none 0 0), .bool false]) ∧ Below w.heap.size w w' := by
  have lq := lt_of_heap hq
  have c0 : (w.alloc (.cells (rcC 0 0 none 0 0) 68)).cell? ⟨q, 0, none⟩ = some (.slice a len cap) := by rw [cell_of_row _ _ 0 _ _ _ (ext11 hq)]; rfl
  have hl' : (len : Int) < 5 := by omega
  clear hq
  go_enter Tryd.func38, Tryd.ntmps38
  go_wp2_with (refine wpList_store_by rfl 68 _ _ rfl ⟨w.heap.size, 0, none⟩ _ rfl rfl (storeRc _ _ _ 0 0 none 0 0 _ (at11 _ _ _ rfl) rfl) ?_)
  refine bodyPost_ret (v := .tuple #[.agg (rcC 0 0 none 0 0), .bool false]) ?_ rfl ?_
  · have LR := loadRc _ w.heap.size 0 0 none 0 0 _ (setRow_heap _ _ _ (rcC 0 0 none 0 0) _ _ (at11 w (.cells (rcC 0 0 none 0 0) 68) _ rfl))
    simp [results, Tryd.results38, asAddr, LR]
  · exact ⟨rfl, below_setRow (by repeat (first | exact Below.refl _ _ | apply Below.drew | apply Below.al)) (Nat.le_refl _) _⟩

theorem storePl (w : World) (B : Nat) (C : Array Value) (i s : Int) (T : TypeId) (hb : w.heap[B]? = some (.cells C T (0, 0))) (hC : C.size = 2) : (storeVar 33 ⟨B, 0, none⟩ (plV i s)).run Tryd.prog w = .ok () (w.setRow B #[.int .u16 i, .int .u8 s]) :=
  run_storeVar_row w B T 33 C #[.int .u16 i, .int .u8 s] hb sizeP hC (by simp [Value.oneCell'])

set_option linter.unusedSimpArgs false in
set_option maxHeartbeats 4000000 in
set_option maxRecDepth 100000 in
theorem rd1_any (q bl off len cap : Nat) (zs : List Int) (w : World) (hq : w.heap[q]? = some (.cells #[.slice (some ⟨bl, off, none⟩) len cap] 34 (0, 0))) (hr : Row w (some ⟨bl, off, none⟩) len zs) (hl : 5 ≤ len) (hlc : len ≤ cap) (n : Nat) (hn : (n : Int) = w2 (zs.getD 3 0) (zs.getD 4 0)) :
    Calls Tryd.prog 38 #[.pointer (some ⟨q, 0, none⟩)] w fun e w' =>
      (len < 5 + n ∧ e = .returned (.tuple #[.agg (rcC 0 0 none 0 0), .bool false]) ∧ Below w.heap.size w w') ∨
      (5 + n ≤ len ∧ ∃ av ar, e = .returned (.tuple #[.agg (rcC (w2 (zs.getD 0 0) (zs.getD 1 0)) (zs.getD 2 0) (some ⟨bl, av, none⟩) n (cap - 5)), .bool true]) ∧ w'.heap[q]? = some (.cells #[.slice (some ⟨bl, ar, none⟩) (len - (5 + n)) (cap - (5 + n))] 34 (0, 0)) ∧ (0 < n → av = off + 5) ∧ (0 < len - (5 + n) → ar = off + (5 + n)) ∧ Kp [q] w w') := by
  have lq := lt_of_heap hq
  have HQ : Hid (∀ W, Below w.heap.size w W → W.heap[q]? = some (.cells #[.slice (some ⟨bl, off, none⟩) len cap] 34 (0, 0))) := fun W hW => blk11 hW hq
  have CB : Hid (∀ W, Below w.heap.size w W → ∀ k, k < 5 → W.cell? ⟨bl, off + k, none⟩ = some (.int .u8 (zs.getD k 0))) := fun W hW k hk => by
    obtain ⟨b', o', e, hc⟩ := (hr.next hW).at_ (by omega)
    cases e
    exact hc k (by omega)
  have o0 := hr.oct.getD 0
  have o1 := hr.oct.getD 1
  have o2 := hr.oct.getD 2
  have o3 := hr.oct.getD 3
  have o4 := hr.oct.getD 4
  obtain ⟨y0, E0⟩ : ∃ y, Hid (zs.getD 0 0 = y) := ⟨_, rfl⟩
  obtain ⟨y1, E1⟩ : ∃ y, Hid (zs.getD 1 0 = y) := ⟨_, rfl⟩
  obtain ⟨y2, E2⟩ : ∃ y, Hid (zs.getD 2 0 = y) := ⟨_, rfl⟩
  obtain ⟨y3, E3⟩ : ∃ y, Hid (zs.getD 3 0 = y) := ⟨_, rfl⟩
  obtain ⟨y4, E4⟩ : ∃ y, Hid (zs.getD 4 0 = y) := ⟨_, rfl⟩
  rw [E0.out] at o0
  rw [E1.out] at o1
  rw [E2.out] at o2
  rw [E3.out] at o3
  rw [E4.out] at o4
  rw [E3.out, E4.out] at hn
  rw [E0.out, E1.out, E2.out]
  obtain ⟨i, HIi⟩ : ∃ i, Hid (i = w2 y0 y1) := ⟨_, rfl⟩
  rw [← HIi.out]
  have O16 : bits .or .u16 y0 (y1 * 256) = i := by rw [HIi.out]; exact or16 o0.1 o0.2 o1.1 o1.2
  have O64 : bits .or .i64 y3 (y4 * 256) = (n : Int) := by rw [hn]; exact or64 o3.1 o3.2 o4.1 o4.2
  have hn65 : n ≤ 65535 := by unfold w2 at hn; omega
  have W16 : IntKind.u16.wrap (y1 * 256) = y1 * 256 := by simp [IntKind.wrap, IntKind.bits, IntKind.signed]; omega
  have V0 : IntKind.u16.wrap y0 = y0 := by simp [IntKind.wrap, IntKind.bits, IntKind.signed]; omega
  have V1 : IntKind.u16.wrap y1 = y1 := by simp [IntKind.wrap, IntKind.bits, IntKind.signed]; omega
  have V3 : IntKind.i64.wrap y3 = y3 := by rw [IntKind.wrap_i64]; omega
  have V4 : IntKind.i64.wrap y4 = y4 := by rw [IntKind.wrap_i64]; omega
  have W64 : IntKind.i64.wrap (y4 * 256) = y4 * 256 := by rw [IntKind.wrap_i64]; omega
  obtain ⟨E, HEE⟩ : ∃ E, Hid (E = 5 + n) := ⟨_, rfl⟩
  have WE : IntKind.i64.wrap (5 + (n : Int)) = (E : Int) := by have := HEE.out; rw [IntKind.wrap_i64]; omega
  have HN : Hid ((n : Int) = w2 y3 y4) := hn
  have hl' : ¬ ((len : Int) < 5) := by omega
  have hqb : Hid (q ≠ bl) := fun e => by
    have h1 := CB.out w (Below.refl _ _) 1 (by decide)
    rw [← e, cell_of_row _ _ _ _ _ _ hq, Array.getElem?_eq_none (by simp)] at h1
    cases h1
  clear hq hr hn
  have c0 : (w.alloc (.cells (rcC 0 0 none 0 0) 68)).cell? ⟨q, 0, none⟩ = some (.slice (some ⟨bl, off, none⟩) len cap) := by rw [cell_of_row _ _ 0 _ _ _ (HQ.out _ (by repeat (first | exact Below.refl _ _ | apply Below.drew | apply Below.al)))]; rfl
  go_enter Tryd.func38, Tryd.ntmps38
  go_wp2_with fail
  refine wp_region_held_drew (S := fun x => Below w.heap.size w x) (by kernel_rfl) (Below.drew (by repeat (first | exact Below.refl _ _ | apply Below.drew | apply Below.al))) (fun hHeld => ?_)
  refine tk 0 (.slice (some ⟨bl, off, none⟩) len cap) rfl (.inl ⟨by rfl, ?_⟩) ?_
  · intro w9 hSw
    try dsimp only at hSw
    have c0 : w9.cell? ⟨q, 0, none⟩ = some (.slice (some ⟨bl, off, none⟩) len cap) := by rw [cell_of_row _ _ 0 _ _ _ (HQ.out _ hSw)]; rfl
    go_simp
    all_goals try assumption
  try simp only [Act.put, gA, gS, gZ, sA, sZ, sS]
  refine tk 1 (.pointer (some ⟨bl, off, none⟩)) rfl (.inl ⟨by rfl, ?_⟩) ?_
  · intro w9 hSw
    try dsimp only at hSw
    have g : (0 : Int) < (len : Int) := by omega
    go_simp
    all_goals try omega
    all_goals try simp [Addr.add]
  try simp only [Act.put, gA, gS, gZ, sA, sZ, sS]
  refine tk 2 (.int .u8 y0) rfl (.inl ⟨by rfl, ?_⟩) ?_
  · intro w9 hSw
    try dsimp only at hSw
    have c0 := CB.out _ hSw 0 (by decide)
    simp only [Nat.add_zero] at c0
    rw [E0.out] at c0
    go_simp
    all_goals try assumption
  try simp only [Act.put, gA, gS, gZ, sA, sZ, sS]
  refine tk 3 (.int .u16 y0) rfl (.inl ⟨by rfl, ?_⟩) ?_
  · intro w9 hSw
    try dsimp only at hSw
    go_simp
    all_goals try decide
    all_goals try assumption
    all_goals try omega
  try simp only [Act.put, gA, gS, gZ, sA, sZ, sS]
  refine tk 4 (.slice (some ⟨bl, off, none⟩) len cap) rfl (.inl ⟨by rfl, ?_⟩) ?_
  · intro w9 hSw
    try dsimp only at hSw
    have c0 : w9.cell? ⟨q, 0, none⟩ = some (.slice (some ⟨bl, off, none⟩) len cap) := by rw [cell_of_row _ _ 0 _ _ _ (HQ.out _ hSw)]; rfl
    go_simp
    all_goals try assumption
  try simp only [Act.put, gA, gS, gZ, sA, sZ, sS]
  refine tk 5 (.pointer (some ⟨bl, off + 1, none⟩)) rfl (.inl ⟨by rfl, ?_⟩) ?_
  · intro w9 hSw
    try dsimp only at hSw
    have g : (1 : Int) < (len : Int) := by omega
    go_simp
    all_goals try omega
    all_goals try simp [Addr.add]
  try simp only [Act.put, gA, gS, gZ, sA, sZ, sS]
  refine tk 6 (.int .u8 y1) rfl (.inl ⟨by rfl, ?_⟩) ?_
  · intro w9 hSw
    try dsimp only at hSw
    have c0 := CB.out _ hSw 1 (by decide)
    skip
    rw [E1.out] at c0
    go_simp
    all_goals try assumption
  try simp only [Act.put, gA, gS, gZ, sA, sZ, sS]
  refine tk 7 (.int .u16 y1) rfl (.inl ⟨by rfl, ?_⟩) ?_
  · intro w9 hSw
    try dsimp only at hSw
    go_simp
    all_goals try decide
    all_goals try assumption
    all_goals try omega
  try simp only [Act.put, gA, gS, gZ, sA, sZ, sS]
  refine tk 8 (.int .u16 (y1 * 256)) rfl (.inl ⟨by rfl, ?_⟩) ?_
  · intro w9 hSw
    try dsimp only at hSw
    have h16 := W16
    go_simp
    all_goals try omega
  try simp only [Act.put, gA, gS, gZ, sA, sZ, sS]
  refine tk 9 (.int .u16 i) rfl (.inl ⟨by rfl, ?_⟩) ?_
  · intro w9 hSw
    try dsimp only at hSw
    have h16 := O16
    go_simp
    all_goals try assumption
  try simp only [Act.put, gA, gS, gZ, sA, sZ, sS]
  refine tk 10 (.slice (some ⟨bl, off, none⟩) len cap) rfl (.inl ⟨by rfl, ?_⟩) ?_
  · intro w9 hSw
    try dsimp only at hSw
    have c0 : w9.cell? ⟨q, 0, none⟩ = some (.slice (some ⟨bl, off, none⟩) len cap) := by rw [cell_of_row _ _ 0 _ _ _ (HQ.out _ hSw)]; rfl
    go_simp
    all_goals try assumption
  try simp only [Act.put, gA, gS, gZ, sA, sZ, sS]
  refine tk 11 (.pointer (some ⟨bl, off + 2, none⟩)) rfl (.inl ⟨by rfl, ?_⟩) ?_
  · intro w9 hSw
    try dsimp only at hSw
    have g : (2 : Int) < (len : Int) := by omega
    go_simp
    all_goals try omega
    all_goals try simp [Addr.add]
  try simp only [Act.put, gA, gS, gZ, sA, sZ, sS]
  refine tk 12 (.int .u8 y2) rfl (.inl ⟨by rfl, ?_⟩) ?_
  · intro w9 hSw
    try dsimp only at hSw
    have c0 := CB.out _ hSw 2 (by decide)
    skip
    rw [E2.out] at c0
    go_simp
    all_goals try assumption
  try simp only [Act.put, gA, gS, gZ, sA, sZ, sS]
  refine tk 13 (plV i y2) rfl (.inl ⟨by rfl, ?_⟩) ?_
  · intro w9 hSw
    try dsimp only at hSw
    go_simp
    all_goals try decide
    all_goals try assumption
    all_goals try omega
  try simp only [Act.put, gA, gS, gZ, sA, sZ, sS]
  refine wpAnyH_ready (rs := [14]) (by kernel_rfl) (by simp) ?_
  refine AllReadyH.cons rfl (fun K' hK => ?_) AllReadyH.nil
  rw [if_pos (by rfl)]
  simp only [gA, gS, gZ]
  go_wp2_with fail
  refine hK.out _ _ (Below.al hHeld _) (fun hHeld => ?_)
  clear hK K'
  try simp only [Act.put, gA, gS, gZ, sA, sZ, sS]
  refine wpAnyH_ready (rs := [15]) (by kernel_rfl) (by simp) ?_
  refine AllReadyH.cons rfl (fun K' hK => ?_) AllReadyH.nil
  rw [if_pos (by rfl)]
  simp only [gA, gS, gZ]
  refine wp_store_by 33 _ _ rfl ⟨w.heap.size + 1, 0, none⟩ _ rfl rfl (storePl _ _ _ i y2 _ (at11 _ _ _ (by simp)) rfl) ?_
  refine hK.out _ _ (below_setRow hHeld (by omega) _) (fun hHeld => ?_)
  clear hK K'
  try simp only [Act.put, gA, gS, gZ, sA, sZ, sS]
  refine wpAnyH_done (by kernel_rfl) ?_ _
  obtain ⟨W1, HW1⟩ : ∃ W1, Hid (((w.alloc (.cells (rcC 0 0 none 0 0) 68)).alloc (.cells #[.int .u16 0, .int .u8 0] 33)).drew.setRow (w.heap.size + 1) #[.int .u16 i, .int .u8 y2] = W1) := ⟨_, rfl⟩
  have B1 : Hid (Below w.heap.size w W1) := by show Below _ _ _; rw [← HW1.out]; exact hHeld
  have Z1 : Hid (W1.heap[w.heap.size]? = some (.cells (rcC 0 0 none 0 0) 68 (0, 0))) := by show _ = _; rw [← HW1.out]; exact (setRow_other _ _ _ _ (by omega)).trans (ext11 (at11 _ _ _ rfl))
  have PL1 : Hid (W1.heap[w.heap.size + 1]? = some (.cells #[.int .u16 i, .int .u8 y2] 33 (0, 0))) := by show _ = _; rw [← HW1.out]; exact setRow_heap _ _ _ _ _ _ (at11 _ _ _ (by simp))
  rw [show ((w.alloc _).alloc _).drew.setRow (w.heap.size + 1) _ = W1 from HW1.out]
  clear HW1 hHeld c0
  go_wp2_with fail
  refine wp_region_held_drew (S := fun x => Below W1.heap.size W1 x) (by kernel_rfl) (Below.drew (Below.refl _ _)) (fun hHeld => ?_)
  refine tk 0 (.slice (some ⟨bl, off, none⟩) len cap) rfl (.inl ⟨by rfl, ?_⟩) ?_
  · intro w9 hSw
    try dsimp only at hSw
    have c0 : w9.cell? ⟨q, 0, none⟩ = some (.slice (some ⟨bl, off, none⟩) len cap) := by rw [cell_of_row _ _ 0 _ _ _ (HQ.out _ (Below.andThen B1.out hSw))]; rfl
    go_simp
    all_goals try assumption
  try simp only [Act.put, gA, gS, gZ, sA, sZ, sS]
  refine tk 1 (.pointer (some ⟨bl, off + 3, none⟩)) rfl (.inl ⟨by rfl, ?_⟩) ?_
  · intro w9 hSw
    try dsimp only at hSw
    have g : (3 : Int) < (len : Int) := by omega
    go_simp
    all_goals try omega
    all_goals try simp [Addr.add]
  try simp only [Act.put, gA, gS, gZ, sA, sZ, sS]
  refine tk 2 (.int .u8 y3) rfl (.inl ⟨by rfl, ?_⟩) ?_
  · intro w9 hSw
    try dsimp only at hSw
    have c0 := CB.out _ (Below.andThen B1.out hSw) 3 (by decide)
    skip
    rw [E3.out] at c0
    go_simp
    all_goals try assumption
  try simp only [Act.put, gA, gS, gZ, sA, sZ, sS]
  refine tk 3 (.int .i64 y3) rfl (.inl ⟨by rfl, ?_⟩) ?_
  · intro w9 hSw
    try dsimp only at hSw
    go_simp
    all_goals try decide
    all_goals try assumption
    all_goals try omega
  try simp only [Act.put, gA, gS, gZ, sA, sZ, sS]
  refine tk 4 (.slice (some ⟨bl, off, none⟩) len cap) rfl (.inl ⟨by rfl, ?_⟩) ?_
  · intro w9 hSw
    try dsimp only at hSw
    have c0 : w9.cell? ⟨q, 0, none⟩ = some (.slice (some ⟨bl, off, none⟩) len cap) := by rw [cell_of_row _ _ 0 _ _ _ (HQ.out _ (Below.andThen B1.out hSw))]; rfl
    go_simp
    all_goals try assumption
  try simp only [Act.put, gA, gS, gZ, sA, sZ, sS]
  refine tk 5 (.pointer (some ⟨bl, off + 4, none⟩)) rfl (.inl ⟨by rfl, ?_⟩) ?_
  · intro w9 hSw
    try dsimp only at hSw
    have g : (4 : Int) < (len : Int) := by omega
    go_simp
    all_goals try omega
    all_goals try simp [Addr.add]
  try simp only [Act.put, gA, gS, gZ, sA, sZ, sS]
  refine tk 6 (.int .u8 y4) rfl (.inl ⟨by rfl, ?_⟩) ?_
  · intro w9 hSw
    try dsimp only at hSw
    have c0 := CB.out _ (Below.andThen B1.out hSw) 4 (by decide)
    skip
    rw [E4.out] at c0
    go_simp
    all_goals try assumption
  try simp only [Act.put, gA, gS, gZ, sA, sZ, sS]
  refine tk 7 (.int .i64 y4) rfl (.inl ⟨by rfl, ?_⟩) ?_
  · intro w9 hSw
    try dsimp only at hSw
    go_simp
    all_goals try decide
    all_goals try assumption
    all_goals try omega
  try simp only [Act.put, gA, gS, gZ, sA, sZ, sS]
  refine tk 8 (.int .i64 (y4 * 256)) rfl (.inl ⟨by rfl, ?_⟩) ?_
  · intro w9 hSw
    try dsimp only at hSw
    have h64 := W64
    go_simp
    all_goals try omega
  try simp only [Act.put, gA, gS, gZ, sA, sZ, sS]
  refine tk 9 (.int .i64 (n : Int)) rfl (.inl ⟨by rfl, ?_⟩) ?_
  · intro w9 hSw
    try dsimp only at hSw
    have h64 := O64
    go_simp
    all_goals try assumption
  try simp only [Act.put, gA, gS, gZ, sA, sZ, sS]
  refine tk 10 (.int .i64 (E : Int)) rfl (.inl ⟨by rfl, ?_⟩) ?_
  · intro w9 hSw
    try dsimp only at hSw
    have h64 := WE
    go_simp
    all_goals try assumption
  try simp only [Act.put, gA, gS, gZ, sA, sZ, sS]
  refine tk 11 (.int .i64 (E : Int)) rfl (.inl ⟨by rfl, ?_⟩) ?_
  · intro w9 hSw
    try dsimp only at hSw
    go_simp
    all_goals try decide
    all_goals try assumption
    all_goals try omega
  try simp only [Act.put, gA, gS, gZ, sA, sZ, sS]
  refine wpAnyH_done (by kernel_rfl) ?_ _
  have B2 : Hid (Below w.heap.size w W1.drew) := Below.andThen B1.out hHeld
  have Z2 : Hid (W1.drew.heap[w.heap.size]? = some (.cells (rcC 0 0 none 0 0) 68 (0, 0))) := Z1.out
  have PL2 : Hid (W1.drew.heap[w.heap.size + 1]? = some (.cells #[.int .u16 i, .int .u8 y2] 33 (0, 0))) := PL1.out
  obtain ⟨W2, HW2⟩ : ∃ W2, Hid (W1.drew = W2) := ⟨_, rfl⟩
  rw [HW2.out] at B2 Z2 PL2 ⊢
  clear HW2 hHeld B1 Z1 PL1
  have c0 : W2.cell? ⟨q, 0, none⟩ = some (.slice (some ⟨bl, off, none⟩) len cap) := by rw [cell_of_row _ _ 0 _ _ _ (HQ.out _ B2.out)]; rfl
  by_cases hle : len < 5 + n
  · have hle' : (len : Int) < (E : Int) := by have := HEE.out; omega
    go_wp2_with (refine wpList_store_by rfl 68 _ _ rfl ⟨w.heap.size, 0, none⟩ _ rfl rfl (storeRc _ _ _ 0 0 none 0 0 _ Z2.out rfl) ?_)
    refine bodyPost_ret (v := .tuple #[.agg (rcC 0 0 none 0 0), .bool false]) ?_ rfl ?_
    · have LR := loadRc _ w.heap.size 0 0 none 0 0 _ (setRow_heap _ _ _ (rcC 0 0 none 0 0) _ _ Z2.out)
      simp [results, Tryd.results38, asAddr, LR]
    · exact .inl ⟨hle, rfl, below_setRow B2.out (Nat.le_refl _) _⟩
  have hle' : ¬ ((len : Int) < (E : Int)) := by have := HEE.out; omega
  obtain ⟨av, HAV⟩ : ∃ av, Hid (av = if cap = 5 then off else off + 5) := ⟨_, rfl⟩
  obtain ⟨ar, HAR⟩ : ∃ ar, Hid (ar = if cap = E then off else off + E) := ⟨_, rfl⟩
  have eS : ∀ W, (sizeOf (Tryd.prog.elem 34)).run Tryd.prog W = .ok 1 W := fun W => by kernel_rfl
  have SL5 : ∀ W, (Instr.sliceAt 34 (.slice (some ⟨bl, off, none⟩) len cap) (some (.int .i64 5)) (some (.int .i64 (E : Int))) none).run Tryd.prog W = .ok (.slice (some ⟨bl, av, none⟩) n (cap - 5)) W := fun W => by
    have hE := HEE.out
    rw [run_sliceAt_slice (P := Tryd.prog) W 34 _ _ _ _ Tryd.underlying34, run_slice_lh (P := Tryd.prog) W 34 _ _ _ Tryd.underlying34 .i64 .i64 5 (E : Int) (by decide) (by omega) (by omega), eS, HAV.out]
    have e1 : (E : Int).toNat - 5 = n := by omega
    by_cases hq : cap = 5 <;> simp [Result.andThen, sliced, hq, Addr.add, e1] <;> omega
  have SLE : ∀ W, (Instr.sliceAt 34 (.slice (some ⟨bl, off, none⟩) len cap) (some (.int .i64 (E : Int))) none none).run Tryd.prog W = .ok (.slice (some ⟨bl, ar, none⟩) (len - E) (cap - E)) W := fun W => by
    have hE := HEE.out
    rw [run_sliceAt_slice (P := Tryd.prog) W 34 _ _ _ _ Tryd.underlying34, run_slice_l (P := Tryd.prog) W 34 _ _ _ Tryd.underlying34 .i64 (E : Int) (by omega) (by omega), eS, HAR.out]
    by_cases hq : cap = E <;> simp [Result.andThen, sliced, hq, Addr.add] <;> omega
  go_wp2_with fail
  refine wp_region_held_drew (S := fun x => Below W2.heap.size W2 x) (by kernel_rfl) (Below.drew (Below.refl _ _)) (fun hHeld => ?_)
  refine tk 0 (plV i y2) rfl (.inl ⟨by rfl, ?_⟩) ?_
  · intro w9 hSw
    try dsimp only at hSw
    exact ex_load11 33 (.tmp 3) rfl _ _ rfl (load_part 33 2 sizeP aggP _ (w.heap.size + 1) 0 [.int .u16 i, .int .u8 y2] _ (blk11 hSw PL2.out) (by simp))
  try simp only [Act.put, gA, gS, gZ, sA, sZ, sS]
  refine tk 1 (.slice (some ⟨bl, off, none⟩) len cap) rfl (.inl ⟨by rfl, ?_⟩) ?_
  · intro w9 hSw
    try dsimp only at hSw
    have c0 : w9.cell? ⟨q, 0, none⟩ = some (.slice (some ⟨bl, off, none⟩) len cap) := by rw [cell_of_row _ _ 0 _ _ _ (HQ.out _ (Below.andThen B2.out hSw))]; rfl
    go_simp
    all_goals try assumption
  try simp only [Act.put, gA, gS, gZ, sA, sZ, sS]
  refine tk 2 (.int .i64 (E : Int)) rfl (.inl ⟨by rfl, ?_⟩) ?_
  · intro w9 hSw
    try dsimp only at hSw
    go_simp
    all_goals try decide
    all_goals try assumption
    all_goals try omega
  try simp only [Act.put, gA, gS, gZ, sA, sZ, sS]
  refine tk 3 (.slice (some ⟨bl, av, none⟩) n (cap - 5)) rfl (.inl ⟨by rfl, ?_⟩) ?_
  · intro w9 hSw
    try dsimp only at hSw
    have h5 := SL5 w9
    go_simp
    all_goals try assumption
  try simp only [Act.put, gA, gS, gZ, sA, sZ, sS]
  refine tk 4 (.agg (rcC i y2 (some ⟨bl, av, none⟩) n (cap - 5))) rfl (.inl ⟨by rfl, ?_⟩) ?_
  · intro w9 hSw
    try dsimp only at hSw
    go_simp
    all_goals try decide
    all_goals try assumption
    all_goals try omega
  try simp only [Act.put, gA, gS, gZ, sA, sZ, sS]
  refine wpAnyH_ready (rs := [5]) (by kernel_rfl) (by simp) ?_
  refine AllReadyH.cons rfl (fun K' hK => ?_) AllReadyH.nil
  rw [if_pos (by rfl)]
  simp only [gA, gS, gZ]
  go_wp2_with fail
  refine hK.out _ _ (Below.al hHeld _) (fun hHeld => ?_)
  clear hK K'
  try simp only [Act.put, gA, gS, gZ, sA, sZ, sS]
  refine wpAnyH_ready (rs := [6]) (by kernel_rfl) (by simp) ?_
  refine AllReadyH.cons rfl (fun K' hK => ?_) AllReadyH.nil
  rw [if_pos (by rfl)]
  simp only [gA, gS, gZ]
  refine wp_store_by 68 _ _ rfl ⟨W2.heap.size, 0, none⟩ _ rfl rfl (storeRc _ _ _ i y2 (some ⟨bl, av, none⟩) n (cap - 5) _ (at11 _ _ _ (by simp)) rfl) ?_
  refine hK.out _ _ (below_setRow hHeld (by omega) _) (fun hHeld => ?_)
  clear hK K'
  try simp only [Act.put, gA, gS, gZ, sA, sZ, sS]
  refine wpAnyH_done (by kernel_rfl) ?_ _
  obtain ⟨W3, HW3⟩ : ∃ W3, Hid ((W2.alloc (.cells (rcC 0 0 none 0 0) 68)).drew.setRow W2.heap.size (rcC i y2 (some ⟨bl, av, none⟩) n (cap - 5)) = W3) := ⟨_, rfl⟩
  have lz := lt_of_heap Z2.out
  have B3 : Hid (Below w.heap.size w W3) := by show Below _ _ _; rw [← HW3.out]; exact Below.andThen B2.out hHeld
  have Z3 : Hid (W3.heap[w.heap.size]? = some (.cells (rcC 0 0 none 0 0) 68 (0, 0))) := by show _ = _; rw [← HW3.out]; exact (setRow_other _ _ _ _ (by omega)).trans (ext11 Z2.out)
  have RC3 : Hid (W3.heap[W2.heap.size]? = some (.cells (rcC i y2 (some ⟨bl, av, none⟩) n (cap - 5)) 68 (0, 0))) := by show _ = _; rw [← HW3.out]; exact setRow_heap _ _ _ _ _ _ (at11 _ _ _ rfl)
  rw [show (W2.alloc _).drew.setRow W2.heap.size _ = W3 from HW3.out]
  have Q3 : Hid (W3.heap[q]? = some (.cells #[.slice (some ⟨bl, off, none⟩) len cap] 34 (0, 0))) := HQ.out _ B3.out
  have LQ2 : Hid (w.heap.size ≤ W2.heap.size) := B2.out.size
  clear HW3 hHeld c0
  have c0 : W3.cell? ⟨q, 0, none⟩ = some (.slice (some ⟨bl, off, none⟩) len cap) := by rw [cell_of_row _ _ 0 _ _ _ Q3.out]; rfl
  have Q4 : Hid ((W3.setRow q #[.slice (some ⟨bl, ar, none⟩) (len - E) (cap - E)]).heap[q]? = some (.cells #[.slice (some ⟨bl, ar, none⟩) (len - E) (cap - E)] 34 (0, 0))) := setRow_heap _ _ _ _ _ _ Q3.out
  have Z4 : Hid ((W3.setRow q #[.slice (some ⟨bl, ar, none⟩) (len - E) (cap - E)]).heap[w.heap.size]? = some (.cells (rcC 0 0 none 0 0) 68 (0, 0))) := (setRow_other _ _ _ _ (by omega)).trans Z3.out
  have RC4 : Hid ((W3.setRow q #[.slice (some ⟨bl, ar, none⟩) (len - E) (cap - E)]).heap[W2.heap.size]? = some (.cells (rcC i y2 (some ⟨bl, av, none⟩) n (cap - 5)) 68 (0, 0))) := (setRow_other _ _ _ _ (by omega)).trans RC3.out
  have K4 : Hid (Kp [q] w (W3.setRow q #[.slice (some ⟨bl, ar, none⟩) (len - E) (cap - E)])) := (Kp.of B3.out).row q _ (.inl (by simp))
  go_wp2_with (first | (refine wpList_store_by rfl 34 _ _ rfl ⟨q, 0, none⟩ _ rfl rfl (store_sl _ sizeSl _ q 0 (some ⟨bl, ar, none⟩) (len - E) (cap - E) _ _ Q3.out (by simp)) ?_) | (refine wpList_load_by rfl 68 _ rfl ⟨W2.heap.size, 0, none⟩ _ rfl (loadRc _ _ i y2 (some ⟨bl, av, none⟩) n (cap - 5) _ RC4.out) ?_) | (refine wpList_store_by rfl 68 _ _ rfl ⟨w.heap.size, 0, none⟩ _ rfl rfl (storeRc _ _ _ i y2 (some ⟨bl, av, none⟩) n (cap - 5) _ Z4.out rfl) ?_))
  refine bodyPost_ret (v := .tuple #[.agg (rcC i y2 (some ⟨bl, av, none⟩) n (cap - 5)), .bool true]) ?_ rfl ?_
  · have LR := loadRc _ w.heap.size i y2 (some ⟨bl, av, none⟩) n (cap - 5) _ (setRow_heap _ _ _ (rcC i y2 (some ⟨bl, av, none⟩) n (cap - 5)) _ _ Z4.out)
    simp [results, Tryd.results38, asAddr, LR]
  · have hE := HEE.out
    refine .inr ⟨by omega, av, ar, rfl, ?_, fun h => by rw [HAV.out, if_neg (by omega)], fun h => by rw [HAR.out, if_neg (by omega), hE], K4.out.row _ _ (.inr (Nat.le_refl _))⟩
    rw [← hE]
    exact (setRow_other _ _ _ _ (by omega)).trans Q4.out
#print axioms rd1_short
#print axioms rd1_any
end Go.Proofs.YtpjmebaipnpegaaDoor
namespace Go.Proofs.YtpjmebaipnpegaaDoor
open Go.RowKit

/-- A value for a place, in a block of its own. -/
structure Rq where
  i : Int
  s : Int
  a : Option Addr
  n : Nat
  c : Nat
/-- Its cells. -/
abbrev Rq.A (x : Rq) : Array Value := #[.int .u16 x.i, .int .u8 x.s, .slice x.a x.n x.c]
def Rq.L (x : Rq) : List Value := x.A.toList
/-- The cells of a row of them. -/
def flr (l : List Rq) : List Value := l.flatMap Rq.L
theorem Rq.L_len (x : Rq) : x.L.length = 3 := rfl
theorem flr_len (l : List Rq) : (flr l).length = l.length * 3 := by
  unfold flr
  induction l with
  | nil => rfl
  | cons x l ih => rw [List.flatMap_cons, List.length_append, ih, Rq.L_len, List.length_cons]; omega
theorem flr_app (l m : List Rq) : flr (l ++ m) = flr l ++ flr m := by unfold flr; rw [List.flatMap_append]
theorem flr_one (x : Rq) : flr [x] = x.L := by unfold flr; simp
theorem flr_at (l : List Rq) (i : Nat) (x : Rq) (h : l[i]? = some x) : ((flr l).drop (i * 3)).take 3 = x.L := by
  obtain ⟨hi, he⟩ := List.getElem?_eq_some_iff.1 h
  have e : l = l.take i ++ (x :: l.drop (i + 1)) := by rw [← he, List.getElem_cons_drop, List.take_append_drop]
  have e2 : flr l = flr (l.take i) ++ (x.L ++ flr (l.drop (i + 1))) := by
    conv => lhs; rw [e]
    rw [flr_app]
    rfl
  have hl : (flr (l.take i)).length = i * 3 := by rw [flr_len, List.length_take]; congr 1; omega
  rw [e2, List.drop_append_of_le_length (by omega), List.drop_of_length_le (by omega), List.nil_append, List.take_append_of_le_length (by rw [Rq.L_len]; omega), List.take_of_length_le (by rw [Rq.L_len]; omega)]
/-- What waits, in memory of its own. -/
abbrev IsRc (w : World) (base : Nat) (v : Value) (l : List Rq) : Prop := w.ownsRow base 68 3 v l.length (flr l)
theorem IsRc.form {w : World} {base : Nat} {v : Value} {l : List Rq} (h : IsRc w base v l) : (v = .slice none 0 0 ∧ l = []) ∨ ∃ g cap cur, v = .slice (some ⟨g, 0, none⟩) l.length cap ∧ base ≤ g ∧ w.heap[g]? = some (.cells cur 68 (0, 0)) ∧ l.length ≤ cap ∧ cap ≤ maxLen ∧ cur.size = cap * 3 ∧ cur.toList.take (l.length * 3) = flr l := by
  rcases h.2 with ⟨h1, h2⟩ | ⟨g, cap, cur, hv, hg, hh, hn, hm, hs, ht⟩
  · exact .inl ⟨h1, List.eq_nil_of_length_eq_zero h2⟩
  · exact .inr ⟨g, cap, cur, hv, hg, hh, hn, hm, hs, ht⟩
/-- One of them out of memory. -/
theorem IsRc.load {w : World} {base g cap : Nat} {l : List Rq} (h : IsRc w base (.slice (some ⟨g, 0, none⟩) l.length cap) l) (i : Nat) (x : Rq) (hx : l[i]? = some x) : (loadVar 68 ⟨g, i * 3, none⟩).run Tryd.prog w = .ok (.agg x.A) w := by
  have hi : i < l.length := (List.getElem?_eq_some_iff.1 hx).1
  rcases h.form with ⟨h1, _⟩ | ⟨g', cap', cur, hv, _, hh, hn, _, hs, ht⟩
  · cases h1
  · cases hv
    have := load_part 68 3 sizeRc aggRc w g (i * 3) cur.toList 68 hh (by simp [hs]; omega)
    rw [this]
    have e : (cur.toList.drop (i * 3)).take 3 = x.L := by
      rw [← flr_at l i x hx, ← ht, List.drop_take, List.take_take, Nat.min_eq_left (by omega)]
    rw [e]
    rfl

theorem infoRc : (Tryd.prog.info? 68).map (fun i => (i.zero, i.size, i.bytes)) = some (some (.agg #[.int .u16 0, .int .u8 0, .slice none 0 0]), 3, 32) := by kernel_rfl
theorem isRc_nil (w : World) (b : Nat) : IsRc w b (.slice none 0 0) [] := ⟨rfl, .inl ⟨rfl, rfl⟩⟩
theorem IsRc.ne {w : World} {base b : Nat} {v : Value} {us : List Rq} {C : Array Value} {T : TypeId} {f : Nat × Nat} (h : IsRc w base v us) (hb : w.heap[b]? = some (.cells C T f)) (hT : T ≠ 68) : some b ≠ v.ownBlock := by
  rcases h.2 with ⟨h1, _⟩ | ⟨g, cap, cur, hv, _, hh, _⟩
  · rw [h1]; intro e; cases e
  · rw [hv]
    intro e
    simp only [Value.ownBlock] at e
    cases e
    rw [hh] at hb
    cases hb
    exact hT rfl
theorem IsRc.same {w w' : World} {base : Nat} {v : Value} {l : List Rq} (h : IsRc w base v l) (hk : ∀ k, v.ownBlock = some k → w'.heap[k]? = w.heap[k]?) : IsRc w' base v l := by
  refine ⟨h.1, ?_⟩
  rcases h.2 with ⟨h1, h2⟩ | ⟨g, cap, cur, hv, hb, hh, r⟩
  · exact .inl ⟨h1, h2⟩
  · exact .inr ⟨g, cap, cur, hv, hb, (hk g (by rw [hv]; rfl)).trans hh, r⟩
theorem IsRc.next {w w' : World} {base : Nat} {v : Value} {l : List Rq} (h : IsRc w base v l) (hb : Below w.heap.size w w') : IsRc w' base v l := h.same fun k hk => hb.block k (h.lt k hk).2
/-- One value put behind those of a row of its own. -/
theorem wpList_append_rec {ops : Array Oper} {rest : List Oper} {o : Oper} {a : Act} {w : World} {Q : Exit → Act → World → Prop} (hgd : o.guard = none) (s x : Operand)
    (ho : o.op = .call { callee := .builtin .append, args := #[s, x], argTypes := #[72, 72] }) (base : Nat) (v : Value) (l : List Rq) (hs : a.eval s = v) (hown : IsRc w base v l)
    (ad : Addr) (y : Rq) (hx : a.eval x = .slice (some ad) 1 1) (hnews : ∀ j u, y.L[j]? = some u → w.cell? (ad.add j) = some u) (h63 : l.length ≤ 1000000) (hbase : base ≤ w.heap.size)
    (h : ∀ v' w', IsRc w' base v' (l ++ [y]) → w.grownBy w' v.ownBlock → wpList Tryd.prog ops Q rest (a.put o.dst v') w') : wpList Tryd.prog ops Q (o :: rest) a w := by
  obtain ⟨i0, hi, hz0, hz1, hz2⟩ := info_parts infoRc
  refine wpList_append_own (P := Tryd.prog) w hgd s x 72 ho base 68 i0 _ 3 32 Tryd.underlying72 hi hz0 hz1 hz2 rfl (by decide) v l.length _ hs hown ad 1 1 y.L hx (Rq.L_len y) hnews (fun u hu => by simp [Rq.L] at hu; rcases hu with rfl | rfl | rfl <;> rfl) (by unfold maxLen; omega) (by omega) hbase ?_
  intro v' w' h1 h2 _
  refine h v' w' ?_ h2
  show w'.ownsRow base 68 3 v' (l ++ [y]).length (flr (l ++ [y]))
  rw [flr_app, flr_one, List.length_append]
  exact h1


set_option maxRecDepth 100000 in
/-- The place of one of them. -/
theorem IsRc.place {w : World} {base g cap : Nat} {l : List Rq} (h : IsRc w base (.slice (some ⟨g, 0, none⟩) l.length cap) l) (i : Nat) (x : Rq) (hx : l[i]? = some x) : (loadVar 33 ⟨g, i * 3, none⟩).run Tryd.prog w = .ok (plV x.i x.s) w := by
  have hi : i < l.length := (List.getElem?_eq_some_iff.1 hx).1
  rcases h.form with ⟨h1, _⟩ | ⟨g', cap', cur, hv, _, hh, hn, _, hs, ht⟩
  · cases h1
  · cases hv
    have := load_part 33 2 sizeP aggP w g (i * 3) cur.toList 68 hh (by simp [hs]; omega)
    rw [this]
    have e3 : (cur.toList.drop (i * 3)).take 3 = x.L := by
      rw [← flr_at l i x hx, ← ht, List.drop_take, List.take_take, Nat.min_eq_left (by omega)]
    have e : (cur.toList.drop (i * 3)).take 2 = x.L.take 2 := by
      rw [← e3, List.take_take]
      rfl
    rw [e]
    rfl
theorem Gr.below {w x : World} (h : Gr w x) : Below w.heap.size w x := by
  obtain ⟨q, os, rfl⟩ := h
  refine ⟨rfl, rfl, rfl, ?_, fun k hk => ?_⟩
  · simp [Go.Sort.grow, World.drewN]
  · simp only [Go.Sort.grow, World.drewN]
    exact Array.getElem?_append_left hk
/-- The length of a slice in memory. -/
def lenAt (w : World) (b : Nat) : Nat := match w.heap[b]? with
  | some (.cells c _ _) => (match c[0]? with
    | some (Value.slice _ n _) => n
    | _ => 0)
  | _ => 0
theorem lenAt_eq {w : World} {b : Nat} {a : Option Addr} {n c : Nat} {T : TypeId} {f : Nat × Nat} (h : w.heap[b]? = some (.cells #[.slice a n c] T f)) : lenAt w b = n := by
  unfold lenAt
  rw [h]
  rfl
/-- A record of a row: its place, where its value begins, how long it is. -/
abbrev R4 := Int × Int × Nat × Nat
def rd (zs : List Int) (o : Nat) : Option R4 := if zs.length < o + 5 then none else if zs.length < o + 5 + (w2 (zs.getD (o + 3) 0) (zs.getD (o + 4) 0)).toNat then none else some (w2 (zs.getD o 0) (zs.getD (o + 1) 0), zs.getD (o + 2) 0, o + 5, (w2 (zs.getD (o + 3) 0) (zs.getD (o + 4) 0)).toNat)
/-- Does it not stand behind those ahead? -/
def badP (acc : List R4) (r : R4) : Bool := match acc.getLast? with
  | none => false
  | some x => decide (0 ≤ cfP ⟨x.1, x.2.1⟩ ⟨r.1, r.2.1⟩)
/-- The records of a row, from a place on. -/
def rcs (zs : List Int) : Nat → Nat → List R4 → Option (List R4)
  | 0, _, _ => none
  | f + 1, o, acc => if zs.length ≤ o then some acc else match rd zs o with
    | none => none
    | some r => if badP acc r = true then none else rcs zs f (r.2.2.1 + r.2.2.2) (acc ++ [r])
/-- Records in memory. -/
def Rws (bl off cap : Nat) (zs : List Int) (us : List Rq) (rs : List R4) : Prop := us.length = rs.length ∧ ∀ (j : Nat) (r : R4), rs[j]? = some r → r.2.2.1 + r.2.2.2 ≤ zs.length ∧ ∃ a c, us[j]? = some ⟨r.1, r.2.1, a, r.2.2.2, c⟩ ∧ (0 < r.2.2.2 → a = some ⟨bl, off + r.2.2.1, none⟩) ∧ r.2.2.2 ≤ c ∧ c ≤ cap
theorem Rws.snoc {bl off cap : Nat} {zs : List Int} {us : List Rq} {rs : List R4} (h : Rws bl off cap zs us rs) {r : R4} {a : Option Addr} {c : Nat} (h1 : r.2.2.1 + r.2.2.2 ≤ zs.length) (h2 : 0 < r.2.2.2 → a = some ⟨bl, off + r.2.2.1, none⟩) (h3 : r.2.2.2 ≤ c) (h4 : c ≤ cap) : Rws bl off cap zs (us ++ [⟨r.1, r.2.1, a, r.2.2.2, c⟩]) (rs ++ [r]) := by
  refine ⟨by simp [h.1], fun j x hx => ?_⟩
  have hl := h.1
  rcases Nat.lt_or_ge j rs.length with hj | hj
  · rw [List.getElem?_append_left hj] at hx
    obtain ⟨q1, a', c', q2, q3⟩ := h.2 j x hx
    exact ⟨q1, a', c', by rw [List.getElem?_append_left (by omega)]; exact q2, q3⟩
  · rw [List.getElem?_append_right hj] at hx
    have hj2 : j = rs.length := by
      have := (List.getElem?_eq_some_iff.1 hx).1
      simp at this
      omega
    subst hj2
    simp at hx
    subst hx
    exact ⟨h1, a, c, by rw [← hl]; simp, h2, h3, h4⟩
theorem Row.from {w : World} {b off len : Nat} {zs : List Int} (h : Row w (some ⟨b, off, none⟩) len zs) (o : Nat) (ho : o ≤ len) : Row w (some ⟨b, off + o, none⟩) (len - o) (zs.drop o) := ⟨by rw [List.length_drop, h.size], fun x hx => h.oct x (List.mem_of_mem_drop hx), fun hp => by
  obtain ⟨b', off', e, hc⟩ := h.at_ (by omega)
  cases e
  refine ⟨b, off + o, rfl, fun i hi => ?_⟩
  rw [Nat.add_assoc, hc (o + i) (by omega), List.getD_eq_getElem?_getD, List.getD_eq_getElem?_getD, List.getElem?_drop]⟩
theorem drop_getD (zs : List Int) (o k : Nat) : (zs.drop o).getD k 0 = zs.getD (o + k) 0 := by
  rw [List.getD_eq_getElem?_getD, List.getD_eq_getElem?_getD, List.getElem?_drop]
/-- What recordsOf answers. -/
def RcPost (bl off cap : Nat) (zs : List Int) (w : World) (e : Ending) (w' : World) : Prop := ((rcs zs (zs.length + 1) 0 [] = none ∧ e = .returned (.tuple #[.slice none 0 0, .bool false])) ∨ ∃ rs v us, rcs zs (zs.length + 1) 0 [] = some rs ∧ e = .returned (.tuple #[v, .bool true]) ∧ IsRc w' (w.heap.size + 1) v us ∧ Rws bl off cap zs us rs) ∧ Below w.heap.size w w'

theorem IsRc.form2 {w : World} {base : Nat} {v : Value} {l : List Rq} (h : IsRc w base v l) : ∃ a cap, v = .slice a l.length cap ∧ (0 < l.length → ∃ g, a = some ⟨g, 0, none⟩) := by
  rcases h.form with ⟨h1, h2⟩ | ⟨g, cap, cur, hv, _⟩
  · subst h2
    exact ⟨none, 0, h1, fun h => absurd h (by simp)⟩
  · exact ⟨_, cap, hv, fun _ => ⟨g, rfl⟩⟩
set_option linter.unusedSimpArgs false in
set_option maxHeartbeats 4000000 in
set_option maxRecDepth 100000 in
theorem recordsOf_any (a0 : Option Addr) (bl off len cap : Nat) (zs : List Int) (w : World) (had : 0 < len → a0 = some ⟨bl, off, none⟩) (hr : Row w a0 len zs) (hlc : len ≤ cap) (hl : len ≤ 1000000) :
    Calls Tryd.prog 26 #[.slice a0 len cap] w (RcPost bl off cap zs w) := by
  have HSZ : Hid (zs.length = len) := hr.size
  have HRW : Hid (0 < len → Row w (some ⟨bl, off, none⟩) len zs) := fun h => by rw [← had h]; exact hr
  obtain ⟨RES, hRES⟩ : ∃ RES, Hid (RES = rcs zs (zs.length + 1) 0 []) := ⟨_, rfl⟩
  have AD0 : Hid (0 < len → a0 = some ⟨bl, off, none⟩) := had
  clear hr had
  go_enter Tryd.func26, Tryd.ntmps26
  go_wp2_with fail
  go_loopw [5] (fun u5 wr => ∃ (f o : Nat) (acc : List R4) (us : List Rq), len - o < f ∧ o ≤ len ∧ Hid (RES = rcs zs f o acc ∧ IsRc wr (w.heap.size + 1) u5 us ∧ Rws bl off cap zs us acc ∧ (∃ ar, wr.heap[w.heap.size]? = some (.cells #[.slice ar (len - o) (cap - o)] 34 (0, 0)) ∧ (0 < len - o → ar = some ⟨bl, off + o, none⟩)) ∧ Below w.heap.size w wr ∧ us.length ≤ o ∧ w.heap.size + 1 ≤ wr.heap.size)) (fun _ wr => lenAt wr w.heap.size)
  case atStart => exact ⟨len + 1, 0, [], [], by omega, Nat.zero_le _, by rw [hRES.out, HSZ.out], isRc_nil _ _, ⟨rfl, fun j r hj => by simp at hj⟩, ⟨a0, heap_new _ _, AD0.out⟩, (by repeat (first | exact Below.refl _ _ | apply Below.drew | apply Below.al)), Nat.le_refl _, by simp⟩
  case round =>
    obtain ⟨f, o, acc, us, hf, ho, HR⟩ := hrel
    obtain ⟨hR0, hV, hW, ⟨ar, hQ, har⟩, hB, hul, hsz⟩ := HR.out
    obtain ⟨f, rfl⟩ : ∃ f', f = f' + 1 := ⟨f - 1, by omega⟩
    have V1 : Hid (IsRc wr (w.heap.size + 1) u5 us) := hV
    have RW : Hid (Rws bl off cap zs us acc) := hW
    have B1 : Hid (Below w.heap.size w wr) := hB
    have UL : Hid (us.length ≤ o) := hul
    have SZ1 : Hid (w.heap.size + 1 ≤ wr.heap.size) := hsz
    have AR : Hid (0 < len - o → ar = some ⟨bl, off + o, none⟩) := har
    obtain ⟨L, HL⟩ : ∃ L, Hid (L = len - o) := ⟨_, rfl⟩
    obtain ⟨K, HK⟩ : ∃ K, Hid (K = cap - o) := ⟨_, rfl⟩
    rw [← HL.out, ← HK.out] at hQ
    have Q1 : Hid (wr.heap[w.heap.size]? = some (.cells #[.slice ar L K] 34 (0, 0))) := hQ
    have c0 : wr.cell? ⟨w.heap.size, 0, none⟩ = some (.slice ar L K) := by rw [cell_of_row _ _ 0 _ _ _ hQ]; rfl
    have RS : Hid (RES = if zs.length ≤ o then some acc else match rd zs o with
      | none => none
      | some r => if badP acc r = true then none else rcs zs f (r.2.2.1 + r.2.2.2) (acc ++ [r])) := hR0
    have HLK : Hid (L ≤ K) := by have := HL.out; have := HK.out; show _ ≤ _; omega
    clear hR0 hV hW hQ har hB hul hsz HR
    by_cases hL : L = 0
    · have gL : ¬ ((0 : Int) < (L : Int)) := by omega
      have R1 : Hid (RES = some acc) := by show _ = _; rw [RS.out, if_pos (by have := HL.out; have := HSZ.out; omega)]
      go_wp2_with fail
      go_ret2
      exact ⟨.inr ⟨acc, u5, us, hRES.out.symm.trans R1.out, rfl, V1.out, RW.out⟩, B1.out⟩
    have gL : (0 : Int) < (L : Int) := by omega
    have R2 : Hid (RES = match rd zs o with
      | none => none
      | some r => if badP acc r = true then none else rcs zs f (r.2.2.1 + r.2.2.2) (acc ++ [r])) := by show _ = _; rw [RS.out, if_neg (by have := HL.out; have := HSZ.out; omega)]
    clear RS
    by_cases h5 : L < 5
    · have R3 : Hid (RES = none) := by
        show _ = _
        rw [R2.out]
        unfold rd
        rw [if_pos (by have := HL.out; have := HSZ.out; omega)]
      have RD := rd1_short w.heap.size ar L K wr Q1.out h5
      go_wp2_with fail
      refine RD.mono ?_
      rintro e z ⟨rfl, hb⟩
      have B2 : Hid (Below w.heap.size w z) := Below.andThen B1.out hb
      clear RD hb c0
      go_wp2_with fail
      refine wp_region_held_drew (S := fun x => Below w.heap.size w x) (by kernel_rfl) (Below.drew (Below.al B2.out _)) (fun hHeld => ?_)
      refine tk 0 (.bool false) rfl (.inl ⟨by rfl, ?_⟩) ?_
      · intro w9 hSw
        try dsimp only at hSw
        go_simp
        all_goals try decide
        all_goals try assumption
        all_goals try omega
      try simp only [Act.put, gA, gS, gZ, sA, sZ, sS]
      refine tk 1 (.bool true) rfl (.inl ⟨by rfl, ?_⟩) ?_
      · intro w9 hSw
        try dsimp only at hSw
        go_simp
        all_goals try decide
        all_goals try assumption
        all_goals try omega
      try simp only [Act.put, gA, gS, gZ, sA, sZ, sS]
      refine tk 2 (.bool true) rfl (.inl ⟨by rfl, ?_⟩) ?_
      · intro w9 hSw
        try dsimp only at hSw
        go_simp
        all_goals try decide
        all_goals try assumption
        all_goals try omega
      try simp only [Act.put, gA, gS, gZ, sA, sZ, sS]
      refine tk 3 undef rfl (.inr ⟨by rfl, rfl⟩) ?_
      try simp only [Act.put, gA, gS, gZ, sA, sZ, sS]
      refine tk 4 undef rfl (.inr ⟨by rfl, rfl⟩) ?_
      try simp only [Act.put, gA, gS, gZ, sA, sZ, sS]
      refine tk 5 undef rfl (.inr ⟨by rfl, rfl⟩) ?_
      try simp only [Act.put, gA, gS, gZ, sA, sZ, sS]
      refine tk 6 undef rfl (.inr ⟨by rfl, rfl⟩) ?_
      try simp only [Act.put, gA, gS, gZ, sA, sZ, sS]
      refine tk 7 undef rfl (.inr ⟨by rfl, rfl⟩) ?_
      try simp only [Act.put, gA, gS, gZ, sA, sZ, sS]
      refine tk 8 undef rfl (.inr ⟨by rfl, rfl⟩) ?_
      try simp only [Act.put, gA, gS, gZ, sA, sZ, sS]
      refine tk 9 undef rfl (.inr ⟨by rfl, rfl⟩) ?_
      try simp only [Act.put, gA, gS, gZ, sA, sZ, sS]
      refine tk 10 undef rfl (.inr ⟨by rfl, rfl⟩) ?_
      try simp only [Act.put, gA, gS, gZ, sA, sZ, sS]
      refine tk 11 undef rfl (.inr ⟨by rfl, rfl⟩) ?_
      try simp only [Act.put, gA, gS, gZ, sA, sZ, sS]
      refine tk 12 undef rfl (.inr ⟨by rfl, rfl⟩) ?_
      try simp only [Act.put, gA, gS, gZ, sA, sZ, sS]
      refine tk 13 undef rfl (.inr ⟨by rfl, rfl⟩) ?_
      try simp only [Act.put, gA, gS, gZ, sA, sZ, sS]
      refine tk 14 undef rfl (.inr ⟨by rfl, rfl⟩) ?_
      try simp only [Act.put, gA, gS, gZ, sA, sZ, sS]
      refine tk 15 undef rfl (.inr ⟨by rfl, rfl⟩) ?_
      try simp only [Act.put, gA, gS, gZ, sA, sZ, sS]
      refine tk 16 undef rfl (.inr ⟨by rfl, rfl⟩) ?_
      try simp only [Act.put, gA, gS, gZ, sA, sZ, sS]
      refine tk 17 undef rfl (.inr ⟨by rfl, rfl⟩) ?_
      try simp only [Act.put, gA, gS, gZ, sA, sZ, sS]
      refine tk 18 undef rfl (.inr ⟨by rfl, rfl⟩) ?_
      try simp only [Act.put, gA, gS, gZ, sA, sZ, sS]
      refine tk 19 (.bool true) rfl (.inl ⟨by rfl, ?_⟩) ?_
      · intro w9 hSw
        try dsimp only at hSw
        go_simp
        all_goals try decide
        all_goals try assumption
        all_goals try omega
      try simp only [Act.put, gA, gS, gZ, sA, sZ, sS]
      refine wpAnyH_done (by kernel_rfl) ?_ _
      go_wp2_with fail
      go_ret2
      exact ⟨.inl ⟨hRES.out.symm.trans R3.out, rfl⟩, hHeld⟩
    obtain rfl := AR.out (by have := HL.out; omega)
    obtain ⟨n, HN⟩ : ∃ n : Nat, Hid (n = (w2 (zs.getD (o + 3) 0) (zs.getD (o + 4) 0)).toNat) := ⟨_, rfl⟩
    have RR := (HRW.out (by have := HL.out; omega)).next B1.out
    have hoc := RR.oct
    have RR := RR.from o (by omega)
    rw [← HL.out] at RR
    have hn0 : (n : Int) = w2 ((zs.drop o).getD 3 0) ((zs.drop o).getD 4 0) := by
      rw [drop_getD, drop_getD, HN.out, Int.toNat_of_nonneg]
      have h1 := hoc.getD (o + 3)
      have h2 := hoc.getD (o + 4)
      unfold w2
      omega
    have RD := rd1_any w.heap.size bl (off + o) L K (zs.drop o) wr Q1.out RR (by omega) HLK.out n hn0
    simp only [drop_getD, Nat.add_zero] at RD
    obtain ⟨i, HIi⟩ : ∃ i, Hid (i = w2 (zs.getD o 0) (zs.getD (o + 1) 0)) := ⟨_, rfl⟩
    obtain ⟨s, HSs⟩ : ∃ s, Hid (s = zs.getD (o + 2) 0) := ⟨_, rfl⟩
    rw [← HIi.out, ← HSs.out] at RD
    clear RR hoc hn0
    go_wp2_with fail
    refine RD.mono ?_
    rintro e z (⟨hlt, rfl, hb⟩ | ⟨hle, av, ar, rfl, hq', hav, har', hk⟩)
    · have R3 : Hid (RES = none) := by
        show _ = _
        rw [R2.out]
        unfold rd
        rw [if_neg (by have := HL.out; have := HSZ.out; omega), ← HN.out, if_pos (by have := HL.out; have := HSZ.out; omega)]
      have B2 : Hid (Below w.heap.size w z) := Below.andThen B1.out hb
      clear RD hb c0
      go_wp2_with fail
      refine wp_region_held_drew (S := fun x => Below w.heap.size w x) (by kernel_rfl) (Below.drew (Below.al B2.out _)) (fun hHeld => ?_)
      refine tk 0 (.bool false) rfl (.inl ⟨by rfl, ?_⟩) ?_
      · intro w9 hSw
        try dsimp only at hSw
        go_simp
        all_goals try decide
        all_goals try assumption
        all_goals try omega
      try simp only [Act.put, gA, gS, gZ, sA, sZ, sS]
      refine tk 1 (.bool true) rfl (.inl ⟨by rfl, ?_⟩) ?_
      · intro w9 hSw
        try dsimp only at hSw
        go_simp
        all_goals try decide
        all_goals try assumption
        all_goals try omega
      try simp only [Act.put, gA, gS, gZ, sA, sZ, sS]
      refine tk 2 (.bool true) rfl (.inl ⟨by rfl, ?_⟩) ?_
      · intro w9 hSw
        try dsimp only at hSw
        go_simp
        all_goals try decide
        all_goals try assumption
        all_goals try omega
      try simp only [Act.put, gA, gS, gZ, sA, sZ, sS]
      refine tk 3 undef rfl (.inr ⟨by rfl, rfl⟩) ?_
      try simp only [Act.put, gA, gS, gZ, sA, sZ, sS]
      refine tk 4 undef rfl (.inr ⟨by rfl, rfl⟩) ?_
      try simp only [Act.put, gA, gS, gZ, sA, sZ, sS]
      refine tk 5 undef rfl (.inr ⟨by rfl, rfl⟩) ?_
      try simp only [Act.put, gA, gS, gZ, sA, sZ, sS]
      refine tk 6 undef rfl (.inr ⟨by rfl, rfl⟩) ?_
      try simp only [Act.put, gA, gS, gZ, sA, sZ, sS]
      refine tk 7 undef rfl (.inr ⟨by rfl, rfl⟩) ?_
      try simp only [Act.put, gA, gS, gZ, sA, sZ, sS]
      refine tk 8 undef rfl (.inr ⟨by rfl, rfl⟩) ?_
      try simp only [Act.put, gA, gS, gZ, sA, sZ, sS]
      refine tk 9 undef rfl (.inr ⟨by rfl, rfl⟩) ?_
      try simp only [Act.put, gA, gS, gZ, sA, sZ, sS]
      refine tk 10 undef rfl (.inr ⟨by rfl, rfl⟩) ?_
      try simp only [Act.put, gA, gS, gZ, sA, sZ, sS]
      refine tk 11 undef rfl (.inr ⟨by rfl, rfl⟩) ?_
      try simp only [Act.put, gA, gS, gZ, sA, sZ, sS]
      refine tk 12 undef rfl (.inr ⟨by rfl, rfl⟩) ?_
      try simp only [Act.put, gA, gS, gZ, sA, sZ, sS]
      refine tk 13 undef rfl (.inr ⟨by rfl, rfl⟩) ?_
      try simp only [Act.put, gA, gS, gZ, sA, sZ, sS]
      refine tk 14 undef rfl (.inr ⟨by rfl, rfl⟩) ?_
      try simp only [Act.put, gA, gS, gZ, sA, sZ, sS]
      refine tk 15 undef rfl (.inr ⟨by rfl, rfl⟩) ?_
      try simp only [Act.put, gA, gS, gZ, sA, sZ, sS]
      refine tk 16 undef rfl (.inr ⟨by rfl, rfl⟩) ?_
      try simp only [Act.put, gA, gS, gZ, sA, sZ, sS]
      refine tk 17 undef rfl (.inr ⟨by rfl, rfl⟩) ?_
      try simp only [Act.put, gA, gS, gZ, sA, sZ, sS]
      refine tk 18 undef rfl (.inr ⟨by rfl, rfl⟩) ?_
      try simp only [Act.put, gA, gS, gZ, sA, sZ, sS]
      refine tk 19 (.bool true) rfl (.inl ⟨by rfl, ?_⟩) ?_
      · intro w9 hSw
        try dsimp only at hSw
        go_simp
        all_goals try decide
        all_goals try assumption
        all_goals try omega
      try simp only [Act.put, gA, gS, gZ, sA, sZ, sS]
      refine wpAnyH_done (by kernel_rfl) ?_ _
      go_wp2_with fail
      go_ret2
      exact ⟨.inl ⟨hRES.out.symm.trans R3.out, rfl⟩, hHeld⟩
    have R3 : Hid (RES = if badP acc (i, s, o + 5, n) = true then none else rcs zs f (o + 5 + n) (acc ++ [(i, s, o + 5, n)])) := by
      show _ = _
      rw [R2.out]
      unfold rd
      rw [if_neg (by have := HL.out; have := HSZ.out; omega), ← HN.out, if_neg (by have := HL.out; have := HSZ.out; omega), ← HIi.out, ← HSs.out]
    have B2 : Hid (Below w.heap.size w z) := Kp.below B1.out hk B1.out.size (by simp)
    have V2 : Hid (IsRc z (w.heap.size + 1) u5 us) := V1.out.same fun kk hkk => hk.block kk (V1.out.lt kk hkk).2 (by have := (V1.out.lt kk hkk).1; simp; omega)
    have Q2 : Hid (z.heap[w.heap.size]? = some (.cells #[.slice (some ⟨bl, ar, none⟩) (L - (5 + n)) (K - (5 + n))] 34 (0, 0))) := hq'
    have AV : Hid (0 < n → av = off + o + 5) := hav
    have AR2 : Hid (0 < L - (5 + n) → ar = off + o + (5 + n)) := har'
    have LE : Hid (5 + n ≤ L) := hle
    have SZ2 : Hid (w.heap.size + 1 ≤ z.heap.size) := Nat.le_trans SZ1.out hk.size
    clear RD hq' hav har' hle hk c0 V1
    obtain ⟨vA, vC, rfl, hva⟩ := V2.out.form2
    obtain ⟨N, HNN⟩ : ∃ N, Hid (N = us.length) := ⟨_, rfl⟩
    have V3 : Hid (IsRc z (w.heap.size + 1) (.slice vA us.length vC) us) := V2.out
    have VA : Hid (0 < N → ∃ g, vA = some ⟨g, 0, none⟩) := by show _ → _; rw [HNN.out]; exact hva
    rw [← HNN.out]
    have hN8 : N ≤ 1000000 := by have := HNN.out; have := UL.out; omega
    clear V2 hva
    go_wp2_with fail
    obtain ⟨Z, HZ⟩ : ∃ Z, Hid (z.alloc (.cells (rcC i s (some ⟨bl, av, none⟩) n (K - 5)) 68) = Z) := ⟨_, rfl⟩
    have NZ : Hid (Below z.heap.size z Z) := by show Below _ _ _; rw [← HZ.out]; exact (by repeat (first | exact Below.refl _ _ | apply Below.drew | apply Below.al))
    have RCZ : Hid (Z.heap[z.heap.size]? = some (.cells (rcC i s (some ⟨bl, av, none⟩) n (K - 5)) 68 (0, 0))) := by show _ = _; rw [← HZ.out]; exact at11 _ _ _ rfl
    rw [show z.alloc _ = Z from HZ.out]
    have BZ : Hid (Below w.heap.size w Z) := Below.andThen B2.out NZ.out
    have VZ : Hid (IsRc Z (w.heap.size + 1) (.slice vA us.length vC) us) := V3.out.next NZ.out
    have QZ := blk11 NZ.out Q2.out
    have SZ := Nat.le_trans SZ2.out NZ.out.size
    have ZQ : Hid (Z.heap[w.heap.size]? = some (.cells #[.slice (some ⟨bl, ar, none⟩) (L - (5 + n)) (K - (5 + n))] 34 (0, 0))) := QZ
    have ZS : Hid (w.heap.size + 1 ≤ Z.heap.size) := SZ
    clear HZ QZ SZ
    by_cases hN0 : N = 0
    · have gN : ¬ ((0 : Int) < (N : Int)) := by omega
      have R4 : Hid (RES = rcs zs f (o + 5 + n) (acc ++ [(i, s, o + 5, n)])) := by
        show _ = _
        rw [R3.out, if_neg]
        have hz : acc = [] := List.eq_nil_of_length_eq_zero (by rw [← RW.out.1, ← HNN.out, hN0])
        rw [hz]
        simp [badP]
      clear hN0
      refine wp_region_held_drew (S := fun x => Below Z.heap.size Z x) (by kernel_rfl) (Below.drew (Below.refl _ _)) (fun hHeld => ?_)
      refine tk 0 (.bool true) rfl (.inl ⟨by rfl, ?_⟩) ?_
      · intro w9 hSw
        try dsimp only at hSw
        go_simp
        all_goals try decide
        all_goals try assumption
        all_goals try omega
      try simp only [Act.put, gA, gS, gZ, sA, sZ, sS]
      refine tk 1 (.bool false) rfl (.inl ⟨by rfl, ?_⟩) ?_
      · intro w9 hSw
        try dsimp only at hSw
        go_simp
        all_goals try decide
        all_goals try assumption
        all_goals try omega
      try simp only [Act.put, gA, gS, gZ, sA, sZ, sS]
      refine tk 2 (.bool false) rfl (.inl ⟨by rfl, ?_⟩) ?_
      · intro w9 hSw
        try dsimp only at hSw
        go_simp
        all_goals try decide
        all_goals try assumption
        all_goals try omega
      try simp only [Act.put, gA, gS, gZ, sA, sZ, sS]
      refine tk 3 (.slice vA N vC) rfl (.inl ⟨by rfl, ?_⟩) ?_
      · intro w9 hSw
        try dsimp only at hSw
        go_simp
        all_goals try decide
        all_goals try assumption
        all_goals try omega
      try simp only [Act.put, gA, gS, gZ, sA, sZ, sS]
      refine tk 4 (.int .i64 (N : Int)) rfl (.inl ⟨by rfl, ?_⟩) ?_
      · intro w9 hSw
        try dsimp only at hSw
        go_simp
        all_goals try decide
        all_goals try assumption
        all_goals try omega
      try simp only [Act.put, gA, gS, gZ, sA, sZ, sS]
      refine tk 5 (.bool false) rfl (.inl ⟨by rfl, ?_⟩) ?_
      · intro w9 hSw
        try dsimp only at hSw
        go_simp
        all_goals try decide
        all_goals try assumption
        all_goals try omega
      try simp only [Act.put, gA, gS, gZ, sA, sZ, sS]
      refine tk 6 (.bool false) rfl (.inl ⟨by rfl, ?_⟩) ?_
      · intro w9 hSw
        try dsimp only at hSw
        go_simp
        all_goals try decide
        all_goals try assumption
        all_goals try omega
      try simp only [Act.put, gA, gS, gZ, sA, sZ, sS]
      refine tk 7 undef rfl (.inr ⟨by rfl, rfl⟩) ?_
      try simp only [Act.put, gA, gS, gZ, sA, sZ, sS]
      refine tk 8 undef rfl (.inr ⟨by rfl, rfl⟩) ?_
      try simp only [Act.put, gA, gS, gZ, sA, sZ, sS]
      refine tk 9 undef rfl (.inr ⟨by rfl, rfl⟩) ?_
      try simp only [Act.put, gA, gS, gZ, sA, sZ, sS]
      refine tk 10 undef rfl (.inr ⟨by rfl, rfl⟩) ?_
      try simp only [Act.put, gA, gS, gZ, sA, sZ, sS]
      refine tk 11 undef rfl (.inr ⟨by rfl, rfl⟩) ?_
      try simp only [Act.put, gA, gS, gZ, sA, sZ, sS]
      refine tk 12 undef rfl (.inr ⟨by rfl, rfl⟩) ?_
      try simp only [Act.put, gA, gS, gZ, sA, sZ, sS]
      refine tk 13 undef rfl (.inr ⟨by rfl, rfl⟩) ?_
      try simp only [Act.put, gA, gS, gZ, sA, sZ, sS]
      refine tk 14 undef rfl (.inr ⟨by rfl, rfl⟩) ?_
      try simp only [Act.put, gA, gS, gZ, sA, sZ, sS]
      refine tk 15 undef rfl (.inr ⟨by rfl, rfl⟩) ?_
      try simp only [Act.put, gA, gS, gZ, sA, sZ, sS]
      refine tk 16 undef rfl (.inr ⟨by rfl, rfl⟩) ?_
      try simp only [Act.put, gA, gS, gZ, sA, sZ, sS]
      refine tk 17 undef rfl (.inr ⟨by rfl, rfl⟩) ?_
      try simp only [Act.put, gA, gS, gZ, sA, sZ, sS]
      refine tk 18 (.bool false) rfl (.inl ⟨by rfl, ?_⟩) ?_
      · intro w9 hSw
        try dsimp only at hSw
        go_simp
        all_goals try decide
        all_goals try assumption
        all_goals try omega
      try simp only [Act.put, gA, gS, gZ, sA, sZ, sS]
      refine tk 19 (.bool false) rfl (.inl ⟨by rfl, ?_⟩) ?_
      · intro w9 hSw
        try dsimp only at hSw
        go_simp
        all_goals try decide
        all_goals try assumption
        all_goals try omega
      try simp only [Act.put, gA, gS, gZ, sA, sZ, sS]
      refine wpAnyH_done (by kernel_rfl) ?_ _
      obtain ⟨z5, HZ5⟩ : ∃ z5, Hid (Z.drew = z5) := ⟨_, rfl⟩
      have N5 : Hid (Below Z.heap.size Z z5) := by show Below _ _ _; rw [← HZ5.out]; exact hHeld
      rw [HZ5.out]
      clear HZ5 hHeld
      have V5 : Hid (IsRc z5 (w.heap.size + 1) (.slice vA us.length vC) us) := VZ.out.next N5.out
      have RC5 : Hid (z5.heap[z.heap.size]? = some (.cells (rcC i s (some ⟨bl, av, none⟩) n (K - 5)) 68 (0, 0))) := blk11 N5.out RCZ.out
      have Q5 : Hid (z5.heap[w.heap.size]? = some (.cells #[.slice (some ⟨bl, ar, none⟩) (L - (5 + n)) (K - (5 + n))] 34 (0, 0))) := blk11 N5.out ZQ.out
      have B5 : Hid (Below w.heap.size w z5) := Below.andThen BZ.out N5.out
      have S5 : Hid (w.heap.size + 1 ≤ z5.heap.size) := Nat.le_trans ZS.out N5.out.size
      go_wp2_with (first | (at_builtin; refine wpList_append_rec rfl _ _ rfl (w.heap.size + 1) (.slice vA us.length vC) us ?q0 (V5.out.next (by repeat (first | exact Below.refl _ _ | apply Below.drew | apply Below.al))) ⟨z5.heap.size, 0, none⟩ ⟨i, s, some ⟨bl, av, none⟩, n, K - 5⟩ rfl ?q1 (by have := HNN.out; omega) ?q2 ?_) | (refine wpList_load_by rfl 68 _ rfl ⟨z.heap.size, 0, none⟩ _ rfl (loadRc _ _ i s (some ⟨bl, av, none⟩) n (K - 5) _ RC5.out) ?_) | go_in)
      case q0 => first | (rw [← HNN.out]; done) | (rw [← HNN.out]; rfl)
      case q1 =>
        intro j u hj
        first
        | (simpa [Rq.L] using hj)
        | exact hj
        | (rw [Addr.add_lit, Nat.zero_add]
           match j, hj with
           | 0, hj => rw [cell_of_row _ _ 0 _ _ _ (at11 _ _ _ rfl)]; simpa [Rq.L] using hj
           | 1, hj => rw [cell_of_row _ _ 1 _ _ _ (at11 _ _ _ rfl)]; simpa [Rq.L] using hj
           | 2, hj => rw [cell_of_row _ _ 2 _ _ _ (at11 _ _ _ rfl)]; simpa [Rq.L] using hj)
      case q2 => have := S5.out; simp; omega
      intro v' y hy hgr
      have BY : Hid (Below w.heap.size w y) := ⟨hgr.os.trans B5.out.os, hgr.tape.trans B5.out.tape, hgr.output.trans B5.out.output, by have := hgr.size; simp at this; have := B5.out.size; omega, fun kk hkk => by
        have s4 := B5.out.size
        rw [hgr.block kk (by simp; omega) (fun e => by have := (V5.out.lt kk e.symm).1; omega), Below.heap_alloc _ _ _ (by omega)]
        exact B5.out.block kk hkk⟩
      have QY : Hid (y.heap[w.heap.size]? = some (.cells #[.slice (some ⟨bl, ar, none⟩) (L - (5 + n)) (K - (5 + n))] 34 (0, 0))) := by
        show _ = _
        have := S5.out
        rw [hgr.block _ (by simp; omega) (fun e => by have := (V5.out.lt _ e.symm).1; omega), Below.heap_alloc _ _ _ (by omega)]
        exact Q5.out
      have SY : Hid (w.heap.size + 1 ≤ y.heap.size) := by have h5 := S5.out; have := hgr.size; simp at this; show _ ≤ _; omega
      have HY : Hid (IsRc y (w.heap.size + 1) v' (us ++ [⟨i, s, some ⟨bl, av, none⟩, n, K - 5⟩])) := hy
      clear hy hgr
      go_wp2_with fail
      have e1 : L - (5 + n) = len - (o + 5 + n) := by have := HL.out; omega
      have e2 : K - (5 + n) = cap - (o + 5 + n) := by have := HK.out; omega
      have hle := LE.out
      have hl0 := HL.out
      refine ⟨⟨f, o + 5 + n, acc ++ [(i, s, o + 5, n)], us ++ [⟨i, s, some ⟨bl, av, none⟩, n, K - 5⟩], by omega, by omega, R4.out, HY.out, RW.out.snoc (r := (i, s, o + 5, n)) (by have := HSZ.out; show o + 5 + n ≤ _; omega) (fun h => by rw [AV.out h, Nat.add_assoc]) (by show n ≤ K - 5; have := HLK.out; omega) (by have := HK.out; omega), ⟨some ⟨bl, ar, none⟩, by rw [← e1, ← e2]; exact QY.out, fun h => by rw [AR2.out (by omega)]; congr 2; omega⟩, BY.out, by have := UL.out; simp; omega, SY.out⟩, ?_⟩
      rw [lenAt_eq QY.out, lenAt_eq Q1.out]
      omega
    have gN : (0 : Int) < (N : Int) := by omega
    obtain ⟨gv, rfl⟩ := VA.out (by omega)
    obtain ⟨M, HM⟩ : ∃ M, Hid (M = N - 1) := ⟨_, rfl⟩
    have wM : IntKind.i64.wrap ((N : Int) - 1) = (M : Int) := by have := HM.out; rw [IntKind.wrap_i64]; omega
    have gM : (M : Int) < (N : Int) := by have := HM.out; omega
    have gM0 : (0 : Int) ≤ (M : Int) := by omega
    have hMu : M < us.length := by have := HM.out; have := HNN.out; omega
    obtain ⟨ux, hux⟩ : ∃ ux, us[M]? = some ux := ⟨_, List.getElem?_eq_getElem hMu⟩
    obtain ⟨rx, hrx⟩ : ∃ rx, acc[M]? = some rx := ⟨_, List.getElem?_eq_getElem (by have := RW.out.1; omega)⟩
    obtain ⟨_, ax, cx, hux', _⟩ := RW.out.2 M rx hrx
    rw [hux] at hux'
    cases hux'
    obtain ⟨xi, xs, xo, xn⟩ := rx
    dsimp only at hux hrx
    have HUX : Hid (us[M]? = some (⟨xi, xs, ax, xn, cx⟩ : Rq)) := hux
    obtain ⟨cv, HCV⟩ : ∃ cv, Hid (cv = cfP ⟨xi, xs⟩ ⟨i, s⟩) := ⟨_, rfl⟩
    obtain ⟨bd, HBD⟩ : ∃ bd, Hid (bd = decide (0 ≤ cv)) := ⟨_, rfl⟩
    have R5 : Hid (RES = if bd = true then none else rcs zs f (o + 5 + n) (acc ++ [(i, s, o + 5, n)])) := by
      show _ = _
      rw [R3.out]
      have hlast : acc.getLast? = some (xi, xs, xo, xn) := by
        rw [List.getLast?_eq_getElem?, ← hrx]
        have := HM.out; have := HNN.out; have := RW.out.1
        congr 1
        omega
      unfold badP
      rw [hlast]
      simp only
      have h2 := HBD.out
      rw [HCV.out] at h2
      subst h2
      first | rfl | (congr 1; done) | (split <;> simp_all)
    have CM : Hid (∀ W, Calls Tryd.prog 39 #[plV xi xs, plV i s] W fun e w' => e = .returned (.int .i64 cv) ∧ Below W.heap.size W w') := fun W => by rw [HCV.out]; exact (cmpPl xi xs i s W).mono fun e w' ⟨h1, h2⟩ => ⟨h1, h2.below⟩
    have VZ2 : Hid (∀ W, Below Z.heap.size Z W → (loadVar 33 ⟨gv, M * 3, none⟩).run Tryd.prog W = .ok (plV xi xs) W) := fun W hW => (VZ.out.next hW).place M _ HUX.out
    have RB : (decide (0 ≤ cv)) = bd := HBD.out.symm
    clear hux hrx hMu
    refine wp_region_held_drew (S := fun x => Below Z.heap.size Z x) (by kernel_rfl) (Below.drew (Below.refl _ _)) (fun hHeld => ?_)
    refine tk 0 (.bool true) rfl (.inl ⟨by rfl, ?_⟩) ?_
    · intro w9 hSw
      try dsimp only at hSw
      go_simp
      all_goals try decide
      all_goals try assumption
      all_goals try omega
    try simp only [Act.put, gA, gS, gZ, sA, sZ, sS]
    refine tk 1 (.bool false) rfl (.inl ⟨by rfl, ?_⟩) ?_
    · intro w9 hSw
      try dsimp only at hSw
      go_simp
      all_goals try decide
      all_goals try assumption
      all_goals try omega
    try simp only [Act.put, gA, gS, gZ, sA, sZ, sS]
    refine tk 2 (.bool false) rfl (.inl ⟨by rfl, ?_⟩) ?_
    · intro w9 hSw
      try dsimp only at hSw
      go_simp
      all_goals try decide
      all_goals try assumption
      all_goals try omega
    try simp only [Act.put, gA, gS, gZ, sA, sZ, sS]
    refine tk 3 (.slice (some ⟨gv, 0, none⟩) N vC) rfl (.inl ⟨by rfl, ?_⟩) ?_
    · intro w9 hSw
      try dsimp only at hSw
      go_simp
      all_goals try decide
      all_goals try assumption
      all_goals try omega
    try simp only [Act.put, gA, gS, gZ, sA, sZ, sS]
    refine tk 4 (.int .i64 (N : Int)) rfl (.inl ⟨by rfl, ?_⟩) ?_
    · intro w9 hSw
      try dsimp only at hSw
      go_simp
      all_goals try decide
      all_goals try assumption
      all_goals try omega
    try simp only [Act.put, gA, gS, gZ, sA, sZ, sS]
    refine tk 5 (.bool true) rfl (.inl ⟨by rfl, ?_⟩) ?_
    · intro w9 hSw
      try dsimp only at hSw
      go_simp
      all_goals try decide
      all_goals try assumption
      all_goals try omega
    try simp only [Act.put, gA, gS, gZ, sA, sZ, sS]
    refine tk 6 (.bool true) rfl (.inl ⟨by rfl, ?_⟩) ?_
    · intro w9 hSw
      try dsimp only at hSw
      go_simp
      all_goals try decide
      all_goals try assumption
      all_goals try omega
    try simp only [Act.put, gA, gS, gZ, sA, sZ, sS]
    refine tk 7 (.slice (some ⟨gv, 0, none⟩) N vC) rfl (.inl ⟨by rfl, ?_⟩) ?_
    · intro w9 hSw
      try dsimp only at hSw
      go_simp
      all_goals try decide
      all_goals try assumption
      all_goals try omega
    try simp only [Act.put, gA, gS, gZ, sA, sZ, sS]
    refine tk 8 (.slice (some ⟨gv, 0, none⟩) N vC) rfl (.inl ⟨by rfl, ?_⟩) ?_
    · intro w9 hSw
      try dsimp only at hSw
      go_simp
      all_goals try decide
      all_goals try assumption
      all_goals try omega
    try simp only [Act.put, gA, gS, gZ, sA, sZ, sS]
    refine tk 9 (.int .i64 (N : Int)) rfl (.inl ⟨by rfl, ?_⟩) ?_
    · intro w9 hSw
      try dsimp only at hSw
      go_simp
      all_goals try decide
      all_goals try assumption
      all_goals try omega
    try simp only [Act.put, gA, gS, gZ, sA, sZ, sS]
    refine tk 10 (.int .i64 (M : Int)) rfl (.inl ⟨by rfl, ?_⟩) ?_
    · intro w9 hSw
      try dsimp only at hSw
      go_simp
      all_goals try decide
      all_goals try assumption
      all_goals try omega
    try simp only [Act.put, gA, gS, gZ, sA, sZ, sS]
    refine tk 11 (.pointer (some ⟨gv, M * 3, none⟩)) rfl (.inl ⟨by rfl, ?_⟩) ?_
    · intro w9 hSw
      try dsimp only at hSw
      go_simp
      all_goals try decide
      all_goals try assumption
      all_goals try omega
    try simp only [Act.put, gA, gS, gZ, sA, sZ, sS]
    refine tk 12 (.pointer (some ⟨gv, M * 3, none⟩)) rfl (.inl ⟨by rfl, ?_⟩) ?_
    · intro w9 hSw
      try dsimp only at hSw
      go_simp
      all_goals try decide
      all_goals try assumption
      all_goals try omega
    try simp only [Act.put, gA, gS, gZ, sA, sZ, sS]
    refine tk 13 (plV xi xs) rfl (.inl ⟨by rfl, ?_⟩) ?_
    · intro w9 hSw
      try dsimp only at hSw
      exact ex_load11 33 (.tmp 29) rfl _ _ rfl (VZ2.out _ hSw)
    try simp only [Act.put, gA, gS, gZ, sA, sZ, sS]
    refine tk 14 (.pointer (some ⟨z.heap.size, 0, none⟩)) rfl (.inl ⟨by rfl, ?_⟩) ?_
    · intro w9 hSw
      try dsimp only at hSw
      go_simp
      all_goals try decide
      all_goals try assumption
      all_goals try omega
    try simp only [Act.put, gA, gS, gZ, sA, sZ, sS]
    refine tk 15 (plV i s) rfl (.inl ⟨by rfl, ?_⟩) ?_
    · intro w9 hSw
      try dsimp only at hSw
      exact ex_load11 33 (.tmp 31) rfl _ _ rfl (load_part 33 2 sizeP aggP _ z.heap.size 0 [.int .u16 i, .int .u8 s, .slice (some ⟨bl, av, none⟩) n (K - 5)] _ (blk11 hSw RCZ.out) (by simp))
    try simp only [Act.put, gA, gS, gZ, sA, sZ, sS]
    refine wpAnyH_ready (rs := [16]) (by kernel_rfl) (by simp) ?_
    refine AllReadyH.cons rfl (fun K' hK => ?_) AllReadyH.nil
    rw [if_pos (by rfl)]
    simp only [gA, gS, gZ]
    go_wp2_with fail
    refine (CM.out _).mono ?_
    rintro e z4 ⟨rfl, hb4⟩
    have N4 : Hid (Below Z.heap.size Z z4) := Below.andThen hHeld hb4
    clear hb4
    try go_wp2_with fail
    refine hK.out _ _ (N4.out) (fun hHeld => ?_)
    clear hK K'
    try simp only [Act.put, gA, gS, gZ, sA, sZ, sS]
    refine tk 17 (.bool bd) rfl (.inl ⟨by rfl, ?_⟩) ?_
    · intro w9 hSw
      try dsimp only at hSw
      go_simp
      all_goals try assumption
    try simp only [Act.put, gA, gS, gZ, sA, sZ, sS]
    refine tk 18 (.bool bd) rfl (.inl ⟨by rfl, ?_⟩) ?_
    · intro w9 hSw
      try dsimp only at hSw
      go_simp
      all_goals try decide
      all_goals try assumption
      all_goals try omega
    try simp only [Act.put, gA, gS, gZ, sA, sZ, sS]
    refine tk 19 (.bool bd) rfl (.inl ⟨by rfl, ?_⟩) ?_
    · intro w9 hSw
      try dsimp only at hSw
      go_simp
      all_goals try decide
      all_goals try assumption
      all_goals try omega
    try simp only [Act.put, gA, gS, gZ, sA, sZ, sS]
    refine wpAnyH_done (by kernel_rfl) ?_ _
    cases bd
    case true =>
      have B9 : Hid (Below w.heap.size w z4) := Below.andThen BZ.out hHeld
      go_wp2_with fail
      go_ret2
      exact ⟨.inl ⟨hRES.out.symm.trans R5.out, rfl⟩, B9.out⟩
    have R4 : Hid (RES = rcs zs f (o + 5 + n) (acc ++ [(i, s, o + 5, n)])) := R5.out
    obtain ⟨z5, HZ5⟩ : ∃ z5, Hid (z4 = z5) := ⟨_, rfl⟩
    have N5 : Hid (Below Z.heap.size Z z5) := by show Below _ _ _; rw [← HZ5.out]; exact hHeld
    rw [HZ5.out]
    clear HZ5 hHeld
    have V5 : Hid (IsRc z5 (w.heap.size + 1) (.slice (some ⟨gv, 0, none⟩) us.length vC) us) := VZ.out.next N5.out
    have RC5 : Hid (z5.heap[z.heap.size]? = some (.cells (rcC i s (some ⟨bl, av, none⟩) n (K - 5)) 68 (0, 0))) := blk11 N5.out RCZ.out
    have Q5 : Hid (z5.heap[w.heap.size]? = some (.cells #[.slice (some ⟨bl, ar, none⟩) (L - (5 + n)) (K - (5 + n))] 34 (0, 0))) := blk11 N5.out ZQ.out
    have B5 : Hid (Below w.heap.size w z5) := Below.andThen BZ.out N5.out
    have S5 : Hid (w.heap.size + 1 ≤ z5.heap.size) := Nat.le_trans ZS.out N5.out.size
    go_wp2_with (first | (at_builtin; refine wpList_append_rec rfl _ _ rfl (w.heap.size + 1) (.slice (some ⟨gv, 0, none⟩) us.length vC) us ?q0 (V5.out.next (by repeat (first | exact Below.refl _ _ | apply Below.drew | apply Below.al))) ⟨z5.heap.size, 0, none⟩ ⟨i, s, some ⟨bl, av, none⟩, n, K - 5⟩ rfl ?q1 (by have := HNN.out; omega) ?q2 ?_) | (refine wpList_load_by rfl 68 _ rfl ⟨z.heap.size, 0, none⟩ _ rfl (loadRc _ _ i s (some ⟨bl, av, none⟩) n (K - 5) _ RC5.out) ?_) | go_in)
    case q0 => first | (rw [← HNN.out]; done) | (rw [← HNN.out]; rfl)
    case q1 =>
      intro j u hj
      first
      | (simpa [Rq.L] using hj)
      | exact hj
      | (rw [Addr.add_lit, Nat.zero_add]
         match j, hj with
         | 0, hj => rw [cell_of_row _ _ 0 _ _ _ (at11 _ _ _ rfl)]; simpa [Rq.L] using hj
         | 1, hj => rw [cell_of_row _ _ 1 _ _ _ (at11 _ _ _ rfl)]; simpa [Rq.L] using hj
         | 2, hj => rw [cell_of_row _ _ 2 _ _ _ (at11 _ _ _ rfl)]; simpa [Rq.L] using hj)
    case q2 => have := S5.out; simp; omega
    intro v' y hy hgr
    have BY : Hid (Below w.heap.size w y) := ⟨hgr.os.trans B5.out.os, hgr.tape.trans B5.out.tape, hgr.output.trans B5.out.output, by have := hgr.size; simp at this; have := B5.out.size; omega, fun kk hkk => by
      have s4 := B5.out.size
      rw [hgr.block kk (by simp; omega) (fun e => by have := (V5.out.lt kk e.symm).1; omega), Below.heap_alloc _ _ _ (by omega)]
      exact B5.out.block kk hkk⟩
    have QY : Hid (y.heap[w.heap.size]? = some (.cells #[.slice (some ⟨bl, ar, none⟩) (L - (5 + n)) (K - (5 + n))] 34 (0, 0))) := by
      show _ = _
      have := S5.out
      rw [hgr.block _ (by simp; omega) (fun e => by have := (V5.out.lt _ e.symm).1; omega), Below.heap_alloc _ _ _ (by omega)]
      exact Q5.out
    have SY : Hid (w.heap.size + 1 ≤ y.heap.size) := by have h5 := S5.out; have := hgr.size; simp at this; show _ ≤ _; omega
    have HY : Hid (IsRc y (w.heap.size + 1) v' (us ++ [⟨i, s, some ⟨bl, av, none⟩, n, K - 5⟩])) := hy
    clear hy hgr
    go_wp2_with fail
    have e1 : L - (5 + n) = len - (o + 5 + n) := by have := HL.out; omega
    have e2 : K - (5 + n) = cap - (o + 5 + n) := by have := HK.out; omega
    have hle := LE.out
    have hl0 := HL.out
    refine ⟨⟨f, o + 5 + n, acc ++ [(i, s, o + 5, n)], us ++ [⟨i, s, some ⟨bl, av, none⟩, n, K - 5⟩], by omega, by omega, R4.out, HY.out, RW.out.snoc (r := (i, s, o + 5, n)) (by have := HSZ.out; show o + 5 + n ≤ _; omega) (fun h => by rw [AV.out h, Nat.add_assoc]) (by show n ≤ K - 5; have := HLK.out; omega) (by have := HK.out; omega), ⟨some ⟨bl, ar, none⟩, by rw [← e1, ← e2]; exact QY.out, fun h => by rw [AR2.out (by omega)]; congr 2; omega⟩, BY.out, by have := UL.out; simp; omega, SY.out⟩, ?_⟩
    rw [lenAt_eq QY.out, lenAt_eq Q1.out]
    omega
#print axioms recordsOf_any
end Go.Proofs.YtpjmebaipnpegaaDoor
namespace Go.Proofs.YtpjmebaipnpegaaDoor
open Go.RowKit

/-- Is a record's value taken? -/
def okL (I : Int → Int → Option It) (G : Int → Int → Int) (g i s : Int) (zv : List Int) : Bool := match I i s with
  | none => false
  | some x => stI x.rt (G i s) g && (Ty.chkN x.t zv x.zl x.zh == 0)
/-- A record's value. -/
def rcV (zs : List Int) (r : R4) : List Int := (zs.drop r.2.2.1).take r.2.2.2
/-- One record taken, or passed over. -/
def ld1 (G : Int → Int → Int) (g : Int) (zs : List Int) (st : (Int → Int → Option It) × Nat) (r : R4) : (Int → Int → Option It) × Nat := if okL st.1 G g r.1 r.2.1 (rcV zs r) = true then (putI st.1 r.1 r.2.1 (rcV zs r), st.2 + 1) else st
def ldA (G : Int → Int → Int) (g : Int) (zs : List Int) (rs : List R4) (I : Int → Int → Option It) : (Int → Int → Option It) × Nat := rs.foldl (ld1 G g zs) (I, 0)
theorem ldA_app (G : Int → Int → Int) (g : Int) (zs : List Int) (rs : List R4) (r : R4) (I : Int → Int → Option It) : ldA G g zs (rs ++ [r]) I = ld1 G g zs (ldA G g zs rs I) r := by
  unfold ldA
  rw [List.foldl_append]
  rfl
theorem ldA_le (G : Int → Int → Int) (g : Int) (zs : List Int) (rs : List R4) (I : Int → Int → Option It) : (ldA G g zs rs I).2 ≤ rs.length := by
  have : ∀ (l : List R4) (st : (Int → Int → Option It) × Nat), (l.foldl (ld1 G g zs) st).2 ≤ st.2 + l.length := fun l => by
    induction l with
    | nil => intro st; exact Nat.le_refl _
    | cons r l ih =>
      intro st
      simp only [List.foldl_cons, List.length_cons]
      have h1 := ih (ld1 G g zs st r)
      have h2 : (ld1 G g zs st r).2 ≤ st.2 + 1 := by unfold ld1; split <;> simp
      omega
  have := this rs (I, 0)
  unfold ldA
  simpa using this
theorem Row.sub8 {w : World} {bl off len : Nat} {zs : List Int} (h : Row w (some ⟨bl, off, none⟩) len zs) (a : Option Addr) (o n : Nat) (ha : 0 < n → a = some ⟨bl, off + o, none⟩) (hn : o + n ≤ len) : Row w a n ((zs.drop o).take n) where
  size := by have := h.size; simp; omega
  oct := (h.oct.drop _).take _
  at_ := fun hp => ⟨bl, off + o, ha hp, fun i hi => by
    obtain ⟨b', off', e, hc⟩ := h.at_ (by omega)
    cases e
    rw [Nat.add_assoc, hc (o + i) (by omega)]
    simp [List.getD_eq_getElem?_getD, List.getElem?_drop, hi]⟩
theorem rd_next {zs : List Int} {o : Nat} {r : R4} (h : rd zs o = some r) : o + 5 ≤ r.2.2.1 + r.2.2.2 ∧ r.2.2.1 + r.2.2.2 ≤ zs.length := by
  unfold rd at h
  split at h
  · cases h
  · split at h
    · cases h
    · cases h
      dsimp only
      omega
theorem rcs_len (zs : List Int) : ∀ (f o : Nat) (acc rs : List R4), rcs zs f o acc = some rs → rs.length ≤ acc.length + (zs.length - o)
  | 0, _, _, _, h => by cases h
  | f + 1, o, acc, rs, h => by
    simp only [rcs] at h
    split at h
    · cases h
      omega
    · split at h
      · cases h
      · rename_i r hr
        split at h
        · cases h
        · have h1 := rcs_len zs f _ _ _ h
          have h2 := rd_next hr
          simp at h1
          omega
/-- put at a place that is there. -/
theorem Dk.put {w : World} {p m : Nat} {cg : Int} {ks : List Pq} {I : Int → Int → Option It} {G : Int → Int → Int} (hD : Dk w p m cg ks I G) {i s : Int} {x : It} (hx : I i s = some x) (b : Option Addr) (lb cb : Nat) (zb : List Int) (rb : SlOk w b lb cb zb) (hlb : lb ≤ 16777216) (hc0 : 0 ≤ cg) (hc1 : cg < 4611686018427387904) (hne : p ≠ m) (hc : Ty.chkN x.t zb x.zl x.zh = 0) :
    Calls Tryd.prog 25 #[.pointer (some ⟨p, 0, none⟩), plV i s, .slice b lb cb] w fun e w' => e = .returned (.tuple #[]) ∧ Dk w' p m (cg + 1) ks (putI I i s zb) G ∧ Kp [p, m] w w' := by
  obtain ⟨lst, h1, h2, h3, h4, h5, h6⟩ := hD
  rcases h3 i s with ⟨_, h⟩ | ⟨y, hy, nm, d, ld, cd, l, ll, cl, h, lh, ch, gr, v, lv, cv, zd, e, r1, r2, r3, r4, g1, g2, g3, g4, g5⟩
  · rw [hx] at h; cases h
  · rw [hx] at hy
    cases hy
    refine (put_at p m cg lst i s nm x.t x.rt d ld cd l ll cl h lh ch x.tg gr v lv cv b lb cb zb w h1 h2 e rb hlb hc0 hc1 hne).mono ?_
    rintro e' w' ⟨he, hpp⟩
    have := dk_put h1 h2 h3 h4 h5 h6 hx e r1 r2 r3 g1 g2 g3 hlb rb.row.size hc hpp
    exact ⟨he, this.1, this.2⟩
/-- What Load answers. -/
def LdPost (p m : Nat) (ks : List Pq) (I : Int → Int → Option It) (G : Int → Int → Int) (g : Int) (zs : List Int) (w : World) (e : Ending) (w' : World) : Prop := (rcs zs (zs.length + 1) 0 [] = none ∧ e = .returned (.tuple #[.int .i64 0, .int .i64 11]) ∧ Below w.heap.size w w') ∨ ∃ rs cg', rcs zs (zs.length + 1) 0 [] = some rs ∧ e = .returned (.tuple #[.int .i64 (((ldA G g zs rs I).2 : Nat) : Int), .int .i64 0]) ∧ Dk w' p m cg' ks (ldA G g zs rs I).1 G ∧ Kp [p, m] w w'

set_option linter.unusedSimpArgs false in
set_option maxHeartbeats 4000000 in
set_option maxRecDepth 100000 in
theorem Dk.load {w : World} {p m : Nat} {cg : Int} {ks : List Pq} {I : Int → Int → Option It} {G : Int → Int → Int} (hD : Dk w p m cg ks I G) (g : Int) (a0 : Option Addr) (len cap : Nat) (zs : List Int) (hr : SlOk w a0 len cap zs) (hl : len ≤ 1000000) (hc0 : 0 ≤ cg) (hc1 : cg < 1000000000) (hne : p ≠ m) :
    Calls Tryd.prog 10 #[.pointer (some ⟨p, 0, none⟩), .int .u8 g, .slice a0 len cap] w (LdPost p m ks I G g zs w) := by
  obtain ⟨bl, off, had⟩ : ∃ bl off, 0 < len → a0 = some ⟨bl, off, none⟩ := by
    by_cases h : 0 < len
    · obtain ⟨b, o, e, _⟩ := hr.row.at_ h
      exact ⟨b, o, fun _ => e⟩
    · exact ⟨0, 0, fun h' => absurd h' h⟩
  have RC := recordsOf_any a0 bl off len cap zs w had hr.row hr.le hl
  have HD : Hid (Dk w p m cg ks I G) := hD
  have HRS : Hid (SlOk w a0 len cap zs) := hr
  have AD : Hid (0 < len → a0 = some ⟨bl, off, none⟩) := had
  have DL : Hid (p < w.heap.size ∧ m < w.heap.size) := hD.lt
  have HCM : Hid (cap ≤ maxLen) := hr.max
  clear hD hr had
  go_enter Tryd.func10, Tryd.ntmps10
  go_wp2_with fail
  refine RC.mono ?_
  rintro e w1 ⟨⟨hn, rfl⟩ | ⟨rs, v, us, hres, rfl, hv, hrw⟩, hb⟩
  · have N1 : Hid (rcs zs (zs.length + 1) 0 [] = none) := hn
    have B1 : Hid (Below w.heap.size w w1) := hb
    clear RC hn hb
    go_wp2_with fail
    go_ret2
    exact .inl ⟨N1.out, rfl, B1.out⟩
  have S1 : Hid (rcs zs (zs.length + 1) 0 [] = some rs) := hres
  have B1 : Hid (Below w.heap.size w w1) := hb
  have D1 : Hid (Dk w1 p m cg ks I G) := HD.out.next hb
  have R1 : Hid (SlOk w1 a0 len cap zs) := HRS.out.next hb
  obtain ⟨vA, vC, rfl, hva⟩ := hv.form2
  have V1 : Hid (IsRc w1 (w.heap.size + 1) (.slice vA us.length vC) us) := hv
  obtain ⟨N, HNN⟩ : ∃ N, Hid (N = us.length) := ⟨_, rfl⟩
  have VA : Hid (0 < N → ∃ g, vA = some ⟨g, 0, none⟩) := by show _ → _; rw [HNN.out]; exact hva
  have RW : Hid (Rws bl off cap zs us rs) := hrw
  rw [← HNN.out]
  have hN6 : N ≤ 1000000 := by
    have h1 := rcs_len zs _ _ _ _ S1.out
    have h2 := RW.out.1
    have h3 := HNN.out
    have h4 := HRS.out.row.size
    simp at h1
    omega
  clear RC hres hb hv hva hrw
  go_wp2_with fail
  go_loopw [10, 26] (fun tv iv wr => ∃ k t : Nat, k ≤ N ∧ t ≤ k ∧ iv = .int .i64 (k : Int) ∧ tv = .int .i64 (t : Int) ∧ Hid (t = (ldA G g zs (rs.take k) I).2 ∧ (∃ c, cg ≤ c ∧ c ≤ cg + k ∧ Dk wr p m c ks (ldA G g zs (rs.take k) I).1 G) ∧ SlOk wr a0 len cap zs ∧ Kp [p, m] w1 wr)) (fun _ iv _ => N - (intOf iv).toNat)
  case atStart => exact ⟨0, 0, Nat.zero_le _, Nat.le_refl _, rfl, rfl, rfl, ⟨cg, Int.le_refl _, by simp, by simpa [ldA] using D1.out⟩, R1.out, Kp.refl _ _⟩
  case round =>
    obtain ⟨k, t, hk, ht, rfl, rfl, HR⟩ := hrel
    obtain ⟨hT, ⟨c, hc2, hc3, hDr⟩, hRr, hKr⟩ := HR.out
    have HT : Hid (t = (ldA G g zs (rs.take k) I).2) := hT
    have HCC : Hid (cg ≤ c ∧ c ≤ cg + k) := ⟨hc2, hc3⟩
    obtain ⟨J, HJ⟩ : ∃ J, Hid (J = (ldA G g zs (rs.take k) I).1) := ⟨_, rfl⟩
    rw [← HJ.out] at hDr
    have DR : Hid (Dk wr p m c ks J G) := hDr
    have RR : Hid (SlOk wr a0 len cap zs) := hRr
    have KR : Hid (Kp [p, m] w1 wr) := hKr
    clear hT hc2 hc3 hDr hRr hKr HR
    by_cases hkN : k < N
    · have gk : (k : Int) < (N : Int) := by omega
      have gk0 : (0 : Int) ≤ (k : Int) := by omega
      obtain ⟨gv, rfl⟩ := VA.out (by omega)
      obtain ⟨rr, hrr⟩ : ∃ rr, rs[k]? = some rr := ⟨_, List.getElem?_eq_getElem (by have := HNN.out; have := RW.out.1; omega)⟩
      have TK : Hid (rs.take (k + 1) = rs.take k ++ [rr]) := by
        show _ = _
        have hk9 : k < rs.length := (List.getElem?_eq_some_iff.1 hrr).1
        rw [List.take_succ_eq_append_getElem hk9]
        congr
        exact Option.some.inj ((List.getElem?_eq_getElem hk9).symm.trans hrr)
      obtain ⟨hlen, a, ca, hux, haa, hnc, hcc⟩ := RW.out.2 k rr hrr
      have VR : Hid (IsRc wr (w.heap.size + 1) (.slice (some ⟨gv, 0, none⟩) us.length vC) us) := V1.out.same fun kk hkk => KR.out.block kk (V1.out.lt kk hkk).2 (by have := (V1.out.lt kk hkk).1; have := DL.out; simp; omega)
      have LD := VR.out.load k _ hux
      obtain ⟨zv, HZV⟩ : ∃ zv, Hid (zv = rcV zs rr) := ⟨_, rfl⟩
      have SLV : Hid (SlOk wr a rr.2.2.2 ca zv) := by
        show SlOk _ _ _ _ _
        rw [HZV.out]
        have hsz := RR.out.row.size
        refine ⟨?_, hnc, Nat.le_trans hcc HCM.out⟩
        by_cases hl0 : 0 < len
        · have hr0 := RR.out.row
          rw [AD.out hl0] at hr0
          exact hr0.sub8 a rr.2.2.1 rr.2.2.2 haa (by omega)
        · have : rr.2.2.2 = 0 := by omega
          unfold rcV
          rw [this]
          exact ⟨rfl, oct_nil, fun h => absurd h (by decide)⟩
      have HLN : Hid (rr.2.2.2 ≤ 16777216) := by have := RR.out.row.size; show _ ≤ _; omega
      have STEP : Hid (ldA G g zs (rs.take (k + 1)) I = if okL J G g rr.1 rr.2.1 zv = true then (putI J rr.1 rr.2.1 zv, t + 1) else (J, t)) := by
        show _ = _
        rw [TK.out, ldA_app]
        unfold ld1
        rw [← HJ.out, ← HZV.out, ← HT.out]
        split
        · rfl
        · rw [HJ.out, HT.out]
      obtain ⟨i, s, o, n⟩ := rr
      dsimp only at hux haa hnc hlen LD SLV HLN STEP
      have wk : IntKind.i64.wrap ((k : Int) + 1) = ((k + 1 : Nat) : Int) := by rw [IntKind.wrap_i64]; omega
      have wt : IntKind.i64.wrap ((t : Int) + 1) = ((t + 1 : Nat) : Int) := by rw [IntKind.wrap_i64]; omega
      clear hux haa hnc hcc hlen hrr TK HT HJ HZV
      try dsimp only [Rq.A] at LD
      go_wp2_with (refine wpList_load_by rfl 68 (.tmp 28) rfl _ _ rfl LD ?_)
      obtain ⟨W2, HW2⟩ : ∃ W2, Hid (wr.alloc (.cells (rcC i s a n ca) 68) = W2) := ⟨_, rfl⟩
      have N2 : Hid (Below wr.heap.size wr W2) := by show Below _ _ _; rw [← HW2.out]; exact (by repeat (first | exact Below.refl _ _ | apply Below.drew | apply Below.al))
      have RC2 : Hid (W2.heap[wr.heap.size]? = some (.cells (rcC i s a n ca) 68 (0, 0))) := by show _ = _; rw [← HW2.out]; exact at11 _ _ _ rfl
      rw [show wr.alloc _ = W2 from HW2.out]
      clear HW2 LD
      obtain ⟨lst, e1, e2, e3, e4, e5, e6⟩ := DR.out.next N2.out
      have E1 : Hid (W2.heap[p]? = some (.cells #[.map (some m), .int .i64 c] 50 (0, 0))) := e1
      have E2 : Hid (IsM W2 m lst) := e2
      have E6 : Hid (Ty.Tab64 W2) := e6
      rcases e3 i s with ⟨l1, l2⟩ | ⟨x, hx, nm, d, ld, cd, l, ll, cl, h, lh, ch, gr, v, lv, cv, zd, e, r1, r2, r3, r4, gg⟩
      · have L1 : Hid (lookP lst i s = none) := l1
        have NOK : Hid (okL J G g i s zv = false) := by show _ = _; unfold okL; rw [l2]
        clear l1 l2 e1 e2 e3 e4 e5 e6
        refine wp_region_held_drew (S := fun x => Below W2.heap.size W2 x) (by kernel_rfl) (Below.drew (Below.refl _ _)) (fun hHeld => ?_)
        refine tk 0 (.pointer (some ⟨p, 0, none⟩)) rfl (.inl ⟨by rfl, ?_⟩) ?_
        · intro w9 hSw
          try dsimp only at hSw
          go_simp
          all_goals try decide
          all_goals try assumption
          all_goals try omega
        try simp only [Act.put, gA, gS, gZ, sA, sZ, sS]
        refine tk 1 (.pointer (some ⟨p, 0, none⟩)) rfl (.inl ⟨by rfl, ?_⟩) ?_
        · intro w9 hSw
          try dsimp only at hSw
          go_simp
          all_goals try decide
          all_goals try assumption
          all_goals try omega
        try simp only [Act.put, gA, gS, gZ, sA, sZ, sS]
        refine tk 2 (.pointer (some ⟨p, 0, none⟩)) rfl (.inl ⟨by rfl, ?_⟩) ?_
        · intro w9 hSw
          try dsimp only at hSw
          go_simp
          all_goals try decide
          all_goals try assumption
          all_goals try omega
        try simp only [Act.put, gA, gS, gZ, sA, sZ, sS]
        refine tk 3 (.map (some m)) rfl (.inl ⟨by rfl, ?_⟩) ?_
        · intro w9 hSw
          try dsimp only at hSw
          have c0 : w9.cell? ⟨p, 0, none⟩ = some (.map (some m)) := by rw [cell_of_row _ _ 0 _ _ _ (blk11 hSw E1.out)]; rfl
          go_simp
          all_goals try assumption
        try simp only [Act.put, gA, gS, gZ, sA, sZ, sS]
        refine tk 4 (.pointer (some ⟨wr.heap.size, 0, none⟩)) rfl (.inl ⟨by rfl, ?_⟩) ?_
        · intro w9 hSw
          try dsimp only at hSw
          go_simp
          all_goals try decide
          all_goals try assumption
          all_goals try omega
        try simp only [Act.put, gA, gS, gZ, sA, sZ, sS]
        refine tk 5 (plV i s) rfl (.inl ⟨by rfl, ?_⟩) ?_
        · intro w9 hSw
          try dsimp only at hSw
          exact ex_load11 33 (.tmp 35) rfl _ _ rfl (load_part 33 2 sizeP aggP _ wr.heap.size 0 [.int .u16 i, .int .u8 s, .slice a n ca] _ (blk11 hSw RC2.out) (by simp))
        try simp only [Act.put, gA, gS, gZ, sA, sZ, sS]
        refine tk 6 (.tuple #[.agg (itC 0 0 ⟨#[]⟩ 0 0 none 0 0 none 0 0 none 0 0 0 0 none 0 0), .bool false]) rfl (.inl ⟨by rfl, ?_⟩) ?_
        · intro w9 hSw
          try dsimp only at hSw
          exact ex_look 48 (.tmp 34) (.tmp 36) true rfl _ _ _ rfl rfl (look_no _ m lst i s _ (zero_item _) (E2.out.next hSw) L1.out)
        try simp only [Act.put, gA, gS, gZ, sA, sZ, sS]
        refine tk 7 (.tuple #[.agg (itC 0 0 ⟨#[]⟩ 0 0 none 0 0 none 0 0 none 0 0 0 0 none 0 0), .bool false]) rfl (.inl ⟨by rfl, ?_⟩) ?_
        · intro w9 hSw
          try dsimp only at hSw
          go_simp
          all_goals try decide
          all_goals try assumption
          all_goals try omega
        try simp only [Act.put, gA, gS, gZ, sA, sZ, sS]
        refine tk 8 (.agg (itC 0 0 ⟨#[]⟩ 0 0 none 0 0 none 0 0 none 0 0 0 0 none 0 0)) rfl (.inl ⟨by rfl, ?_⟩) ?_
        · intro w9 hSw
          try dsimp only at hSw
          go_simp
          all_goals try decide
          all_goals try assumption
          all_goals try omega
        try simp only [Act.put, gA, gS, gZ, sA, sZ, sS]
        refine tk 9 (.bool false) rfl (.inl ⟨by rfl, ?_⟩) ?_
        · intro w9 hSw
          try dsimp only at hSw
          go_simp
          all_goals try decide
          all_goals try assumption
          all_goals try omega
        try simp only [Act.put, gA, gS, gZ, sA, sZ, sS]
        refine wpAnyH_ready (rs := [10]) (by kernel_rfl) (by simp) ?_
        refine AllReadyH.cons rfl (fun K' hK => ?_) AllReadyH.nil
        rw [if_pos (by rfl)]
        simp only [gA, gS, gZ]
        go_wp2_with fail
        refine hK.out _ _ (Below.al hHeld _) (fun hHeld => ?_)
        clear hK K'
        try simp only [Act.put, gA, gS, gZ, sA, sZ, sS]
        refine wpAnyH_ready (rs := [11]) (by kernel_rfl) (by simp) ?_
        refine AllReadyH.cons rfl (fun K' hK => ?_) AllReadyH.nil
        rw [if_pos (by rfl)]
        simp only [gA, gS, gZ]
        refine wp_store_by 54 _ _ rfl ⟨W2.heap.size, 0, none⟩ _ rfl rfl (storeI _ _ _ 0 0 ⟨#[]⟩ 0 0 none 0 0 none 0 0 none 0 0 0 0 none 0 0 _ (at11 _ (.cells (itC 0 0 ⟨#[]⟩ 0 0 none 0 0 none 0 0 none 0 0 0 0 none 0 0) 54) _ (by simp)) rfl) ?_
        refine hK.out _ _ (below_setRow hHeld (Nat.le_refl _) _) (fun hHeld => ?_)
        clear hK K'
        try simp only [Act.put, gA, gS, gZ, sA, sZ, sS]
        refine tk 12 (.bool false) rfl (.inl ⟨by rfl, ?_⟩) ?_
        · intro w9 hSw
          try dsimp only at hSw
          go_simp
          all_goals try decide
          all_goals try assumption
          all_goals try omega
        try simp only [Act.put, gA, gS, gZ, sA, sZ, sS]
        refine wpAnyH_done (by kernel_rfl) ?_ _
        obtain ⟨W3, HW3⟩ : ∃ W3, Hid ((W2.alloc (.cells (itC 0 0 ⟨#[]⟩ 0 0 none 0 0 none 0 0 none 0 0 0 0 none 0 0) 54)).drew.setRow W2.heap.size (itC 0 0 ⟨#[]⟩ 0 0 none 0 0 none 0 0 none 0 0 0 0 none 0 0) = W3) := ⟨_, rfl⟩
        have N3 : Hid (Below W2.heap.size W2 W3) := by show Below _ _ _; rw [← HW3.out]; exact hHeld
        have IT3 : Hid (W3.heap[W2.heap.size]? = some (.cells (itC 0 0 ⟨#[]⟩ 0 0 none 0 0 none 0 0 none 0 0 0 0 none 0 0) 54 (0, 0))) := by show _ = _; rw [← HW3.out]; exact setRow_heap _ _ _ _ _ _ (at11 _ (.cells (itC 0 0 ⟨#[]⟩ 0 0 none 0 0 none 0 0 none 0 0 0 0 none 0 0) 54) _ (by simp))
        rw [show (W2.alloc _).drew.setRow W2.heap.size _ = W3 from HW3.out]
        clear HW3 hHeld
        have RC3 : Hid (W3.heap[wr.heap.size]? = some (.cells (rcC i s a n ca) 68 (0, 0))) := blk11 N3.out RC2.out
        have BW : Hid (Below wr.heap.size wr W3) := Below.andThen N2.out N3.out
        have F : Hid (t = (ldA G g zs (rs.take (k + 1)) I).2 ∧ (∃ c, cg ≤ c ∧ c ≤ cg + (k + 1 : Nat) ∧ Dk W3 p m c ks (ldA G g zs (rs.take (k + 1)) I).1 G) ∧ SlOk W3 a0 len cap zs ∧ Kp [p, m] w1 W3) := by
          show _ ∧ _
          rw [STEP.out, if_neg (by rw [NOK.out]; decide)]
          refine ⟨rfl, ⟨c, HCC.out.1, by have := HCC.out.2; omega, DR.out.next BW.out⟩, RR.out.next BW.out, KR.out.trans (Kp.of BW.out)⟩
        go_wp2_with fail
        exact ⟨⟨k + 1, t, by omega, by omega, by go_num, rfl, F.out⟩, by simp [intOf]; omega⟩
      have L1 : Hid (lookP lst i s = some (.agg (itC i s nm x.t x.rt d ld cd l ll cl h lh ch x.tg gr v lv cv))) := e
      have HX : Hid (J i s = some x) := hx
      obtain ⟨st, HST⟩ : ∃ st, Hid (st = stI x.rt gr g) := ⟨_, rfl⟩
      obtain ⟨ck, HCK⟩ : ∃ ck, Hid (ck = Ty.chkN x.t zv x.zl x.zh) := ⟨_, rfl⟩
      have OKL : Hid (okL J G g i s zv = (st && (ck == 0))) := by
        show _ = _
        unfold okL
        rw [hx]
        simp only
        rw [← e5 i s _ e, HST.out, HCK.out]
        rfl
      have CST : Hid (∀ W, Calls Tryd.prog 27 #[.agg (itC i s nm x.t x.rt d ld cd l ll cl h lh ch x.tg gr v lv cv), .int .u8 g] W fun e w' => e = .returned (.bool st) ∧ Below W.heap.size W w') := fun W => by rw [HST.out]; exact storedWith_any i s nm x.t x.rt d ld cd l ll cl h lh ch x.tg gr v lv cv g W
      have CCK : Hid (∀ W, Below W2.heap.size W2 W → Calls Tryd.prog 28 #[.agg (itC i s nm x.t x.rt d ld cd l ll cl h lh ch x.tg gr v lv cv), .slice a n ca] W fun e w' => e = .returned (.int .u32 ck) ∧ Below W.heap.size W w') := fun W hW => by rw [HCK.out]; exact icheck_any i s nm x.t x.rt d ld cd l ll cl h lh ch x.tg gr v lv cv a n ca zv x.zl x.zh W (SLV.out.next (Below.andThen N2.out hW)) (r2.next hW) (r3.next hW) (tab_next E6.out hW)
      clear e hx e1 e2 e3 e4 e5 e6 r1 r2 r3 r4 gg
      refine wp_region_held_drew (S := fun x => Below W2.heap.size W2 x) (by kernel_rfl) (Below.drew (Below.refl _ _)) (fun hHeld => ?_)
      refine tk 0 (.pointer (some ⟨p, 0, none⟩)) rfl (.inl ⟨by rfl, ?_⟩) ?_
      · intro w9 hSw
        try dsimp only at hSw
        go_simp
        all_goals try decide
        all_goals try assumption
        all_goals try omega
      try simp only [Act.put, gA, gS, gZ, sA, sZ, sS]
      refine tk 1 (.pointer (some ⟨p, 0, none⟩)) rfl (.inl ⟨by rfl, ?_⟩) ?_
      · intro w9 hSw
        try dsimp only at hSw
        go_simp
        all_goals try decide
        all_goals try assumption
        all_goals try omega
      try simp only [Act.put, gA, gS, gZ, sA, sZ, sS]
      refine tk 2 (.pointer (some ⟨p, 0, none⟩)) rfl (.inl ⟨by rfl, ?_⟩) ?_
      · intro w9 hSw
        try dsimp only at hSw
        go_simp
        all_goals try decide
        all_goals try assumption
        all_goals try omega
      try simp only [Act.put, gA, gS, gZ, sA, sZ, sS]
      refine tk 3 (.map (some m)) rfl (.inl ⟨by rfl, ?_⟩) ?_
      · intro w9 hSw
        try dsimp only at hSw
        have c0 : w9.cell? ⟨p, 0, none⟩ = some (.map (some m)) := by rw [cell_of_row _ _ 0 _ _ _ (blk11 hSw E1.out)]; rfl
        go_simp
        all_goals try assumption
      try simp only [Act.put, gA, gS, gZ, sA, sZ, sS]
      refine tk 4 (.pointer (some ⟨wr.heap.size, 0, none⟩)) rfl (.inl ⟨by rfl, ?_⟩) ?_
      · intro w9 hSw
        try dsimp only at hSw
        go_simp
        all_goals try decide
        all_goals try assumption
        all_goals try omega
      try simp only [Act.put, gA, gS, gZ, sA, sZ, sS]
      refine tk 5 (plV i s) rfl (.inl ⟨by rfl, ?_⟩) ?_
      · intro w9 hSw
        try dsimp only at hSw
        exact ex_load11 33 (.tmp 35) rfl _ _ rfl (load_part 33 2 sizeP aggP _ wr.heap.size 0 [.int .u16 i, .int .u8 s, .slice a n ca] _ (blk11 hSw RC2.out) (by simp))
      try simp only [Act.put, gA, gS, gZ, sA, sZ, sS]
      refine tk 6 (.tuple #[.agg (itC i s nm x.t x.rt d ld cd l ll cl h lh ch x.tg gr v lv cv), .bool true]) rfl (.inl ⟨by rfl, ?_⟩) ?_
      · intro w9 hSw
        try dsimp only at hSw
        exact ex_look 48 (.tmp 34) (.tmp 36) true rfl _ _ _ rfl rfl (look_ok _ m lst i s _ (E2.out.next hSw) L1.out)
      try simp only [Act.put, gA, gS, gZ, sA, sZ, sS]
      refine tk 7 (.tuple #[.agg (itC i s nm x.t x.rt d ld cd l ll cl h lh ch x.tg gr v lv cv), .bool true]) rfl (.inl ⟨by rfl, ?_⟩) ?_
      · intro w9 hSw
        try dsimp only at hSw
        go_simp
        all_goals try decide
        all_goals try assumption
        all_goals try omega
      try simp only [Act.put, gA, gS, gZ, sA, sZ, sS]
      refine tk 8 (.agg (itC i s nm x.t x.rt d ld cd l ll cl h lh ch x.tg gr v lv cv)) rfl (.inl ⟨by rfl, ?_⟩) ?_
      · intro w9 hSw
        try dsimp only at hSw
        go_simp
        all_goals try decide
        all_goals try assumption
        all_goals try omega
      try simp only [Act.put, gA, gS, gZ, sA, sZ, sS]
      refine tk 9 (.bool true) rfl (.inl ⟨by rfl, ?_⟩) ?_
      · intro w9 hSw
        try dsimp only at hSw
        go_simp
        all_goals try decide
        all_goals try assumption
        all_goals try omega
      try simp only [Act.put, gA, gS, gZ, sA, sZ, sS]
      refine wpAnyH_ready (rs := [10]) (by kernel_rfl) (by simp) ?_
      refine AllReadyH.cons rfl (fun K' hK => ?_) AllReadyH.nil
      rw [if_pos (by rfl)]
      simp only [gA, gS, gZ]
      go_wp2_with fail
      refine hK.out _ _ (Below.al hHeld _) (fun hHeld => ?_)
      clear hK K'
      try simp only [Act.put, gA, gS, gZ, sA, sZ, sS]
      refine wpAnyH_ready (rs := [11]) (by kernel_rfl) (by simp) ?_
      refine AllReadyH.cons rfl (fun K' hK => ?_) AllReadyH.nil
      rw [if_pos (by rfl)]
      simp only [gA, gS, gZ]
      refine wp_store_by 54 _ _ rfl ⟨W2.heap.size, 0, none⟩ _ rfl rfl (storeI _ _ _ i s nm x.t x.rt d ld cd l ll cl h lh ch x.tg gr v lv cv _ (at11 _ (.cells (itC 0 0 ⟨#[]⟩ 0 0 none 0 0 none 0 0 none 0 0 0 0 none 0 0) 54) _ (by simp)) rfl) ?_
      refine hK.out _ _ (below_setRow hHeld (Nat.le_refl _) _) (fun hHeld => ?_)
      clear hK K'
      try simp only [Act.put, gA, gS, gZ, sA, sZ, sS]
      refine tk 12 (.bool true) rfl (.inl ⟨by rfl, ?_⟩) ?_
      · intro w9 hSw
        try dsimp only at hSw
        go_simp
        all_goals try decide
        all_goals try assumption
        all_goals try omega
      try simp only [Act.put, gA, gS, gZ, sA, sZ, sS]
      refine wpAnyH_done (by kernel_rfl) ?_ _
      obtain ⟨W3, HW3⟩ : ∃ W3, Hid ((W2.alloc (.cells (itC 0 0 ⟨#[]⟩ 0 0 none 0 0 none 0 0 none 0 0 0 0 none 0 0) 54)).drew.setRow W2.heap.size (itC i s nm x.t x.rt d ld cd l ll cl h lh ch x.tg gr v lv cv) = W3) := ⟨_, rfl⟩
      have N3 : Hid (Below W2.heap.size W2 W3) := by show Below _ _ _; rw [← HW3.out]; exact hHeld
      have IT3 : Hid (W3.heap[W2.heap.size]? = some (.cells (itC i s nm x.t x.rt d ld cd l ll cl h lh ch x.tg gr v lv cv) 54 (0, 0))) := by show _ = _; rw [← HW3.out]; exact setRow_heap _ _ _ _ _ _ (at11 _ (.cells (itC 0 0 ⟨#[]⟩ 0 0 none 0 0 none 0 0 none 0 0 0 0 none 0 0) 54) _ (by simp))
      rw [show (W2.alloc _).drew.setRow W2.heap.size _ = W3 from HW3.out]
      clear HW3 hHeld
      have RC3 : Hid (W3.heap[wr.heap.size]? = some (.cells (rcC i s a n ca) 68 (0, 0))) := blk11 N3.out RC2.out
      have k0 : W3.cell? ⟨W2.heap.size, 0, none⟩ = some (.int .u16 i) := by rw [cell_of_row _ _ 0 _ _ _ IT3.out]; rfl
      have k1 : W3.cell? ⟨W2.heap.size, 1, none⟩ = some (.int .u8 s) := by rw [cell_of_row _ _ 1 _ _ _ IT3.out]; rfl
      have k2 : W3.cell? ⟨W2.heap.size, 2, none⟩ = some (.string nm) := by rw [cell_of_row _ _ 2 _ _ _ IT3.out]; rfl
      have k3 : W3.cell? ⟨W2.heap.size, 3, none⟩ = some (.int .u8 x.t) := by rw [cell_of_row _ _ 3 _ _ _ IT3.out]; rfl
      have k4 : W3.cell? ⟨W2.heap.size, 4, none⟩ = some (.int .u8 x.rt) := by rw [cell_of_row _ _ 4 _ _ _ IT3.out]; rfl
      have k5 : W3.cell? ⟨W2.heap.size, 5, none⟩ = some (.slice d ld cd) := by rw [cell_of_row _ _ 5 _ _ _ IT3.out]; rfl
      have k6 : W3.cell? ⟨W2.heap.size, 6, none⟩ = some (.slice l ll cl) := by rw [cell_of_row _ _ 6 _ _ _ IT3.out]; rfl
      have k7 : W3.cell? ⟨W2.heap.size, 7, none⟩ = some (.slice h lh ch) := by rw [cell_of_row _ _ 7 _ _ _ IT3.out]; rfl
      have k8 : W3.cell? ⟨W2.heap.size, 8, none⟩ = some (.int .u8 x.tg) := by rw [cell_of_row _ _ 8 _ _ _ IT3.out]; rfl
      have k9 : W3.cell? ⟨W2.heap.size, 9, none⟩ = some (.int .u8 gr) := by rw [cell_of_row _ _ 9 _ _ _ IT3.out]; rfl
      have k10 : W3.cell? ⟨W2.heap.size, 10, none⟩ = some (.slice v lv cv) := by rw [cell_of_row _ _ 10 _ _ _ IT3.out]; rfl
      go_wp2_with fail
      refine (CST.out _).mono ?_
      rintro e w4 ⟨rfl, hb⟩
      have N4 : Hid (Below W2.heap.size W2 w4) := Below.andThen N3.out hb
      have IT4 : Hid (w4.heap[W2.heap.size]? = some (.cells (itC i s nm x.t x.rt d ld cd l ll cl h lh ch x.tg gr v lv cv) 54 (0, 0))) := blk11 hb IT3.out
      have RC4 : Hid (w4.heap[wr.heap.size]? = some (.cells (rcC i s a n ca) 68 (0, 0))) := blk11 hb RC3.out
      have BW : Hid (Below wr.heap.size wr w4) := Below.andThen N2.out N4.out
      clear hb
      clear k0 k1 k2 k3 k4 k5 k6 k7 k8 k9 k10
      cases st
      case false =>
        have NOK : Hid (okL J G g i s zv = false) := OKL.out
        have F : Hid (t = (ldA G g zs (rs.take (k + 1)) I).2 ∧ (∃ c, cg ≤ c ∧ c ≤ cg + (k + 1 : Nat) ∧ Dk w4 p m c ks (ldA G g zs (rs.take (k + 1)) I).1 G) ∧ SlOk w4 a0 len cap zs ∧ Kp [p, m] w1 w4) := by
          show _ ∧ _
          rw [STEP.out, if_neg (by rw [NOK.out]; decide)]
          refine ⟨rfl, ⟨c, HCC.out.1, by have := HCC.out.2; omega, DR.out.next BW.out⟩, RR.out.next BW.out, KR.out.trans (Kp.of BW.out)⟩
        go_wp2_with fail
        exact ⟨⟨k + 1, t, by omega, by omega, by go_num, rfl, F.out⟩, by simp [intOf]; omega⟩
      have k0 : w4.cell? ⟨W2.heap.size, 0, none⟩ = some (.int .u16 i) := by rw [cell_of_row _ _ 0 _ _ _ IT4.out]; rfl
      have k1 : w4.cell? ⟨W2.heap.size, 1, none⟩ = some (.int .u8 s) := by rw [cell_of_row _ _ 1 _ _ _ IT4.out]; rfl
      have k2 : w4.cell? ⟨W2.heap.size, 2, none⟩ = some (.string nm) := by rw [cell_of_row _ _ 2 _ _ _ IT4.out]; rfl
      have k3 : w4.cell? ⟨W2.heap.size, 3, none⟩ = some (.int .u8 x.t) := by rw [cell_of_row _ _ 3 _ _ _ IT4.out]; rfl
      have k4 : w4.cell? ⟨W2.heap.size, 4, none⟩ = some (.int .u8 x.rt) := by rw [cell_of_row _ _ 4 _ _ _ IT4.out]; rfl
      have k5 : w4.cell? ⟨W2.heap.size, 5, none⟩ = some (.slice d ld cd) := by rw [cell_of_row _ _ 5 _ _ _ IT4.out]; rfl
      have k6 : w4.cell? ⟨W2.heap.size, 6, none⟩ = some (.slice l ll cl) := by rw [cell_of_row _ _ 6 _ _ _ IT4.out]; rfl
      have k7 : w4.cell? ⟨W2.heap.size, 7, none⟩ = some (.slice h lh ch) := by rw [cell_of_row _ _ 7 _ _ _ IT4.out]; rfl
      have k8 : w4.cell? ⟨W2.heap.size, 8, none⟩ = some (.int .u8 x.tg) := by rw [cell_of_row _ _ 8 _ _ _ IT4.out]; rfl
      have k9 : w4.cell? ⟨W2.heap.size, 9, none⟩ = some (.int .u8 gr) := by rw [cell_of_row _ _ 9 _ _ _ IT4.out]; rfl
      have k10 : w4.cell? ⟨W2.heap.size, 10, none⟩ = some (.slice v lv cv) := by rw [cell_of_row _ _ 10 _ _ _ IT4.out]; rfl
      have q2 : w4.cell? ⟨wr.heap.size, 2, none⟩ = some (.slice a n ca) := by rw [cell_of_row _ _ 2 _ _ _ RC4.out]; rfl
      clear BW
      go_wp2_with fail
      refine (CCK.out _ N4.out).mono ?_
      rintro e w5 ⟨rfl, hb⟩
      have N5 : Hid (Below W2.heap.size W2 w5) := Below.andThen N4.out hb
      have RC5 : Hid (w5.heap[wr.heap.size]? = some (.cells (rcC i s a n ca) 68 (0, 0))) := blk11 hb RC4.out
      have BW : Hid (Below wr.heap.size wr w5) := Below.andThen N2.out N5.out
      clear hb q2
      clear k0 k1 k2 k3 k4 k5 k6 k7 k8 k9 k10
      by_cases hck : ck = 0
      case neg =>
        have NOK : Hid (okL J G g i s zv = false) := by show _ = _; rw [OKL.out]; simp [hck]
        have F : Hid (t = (ldA G g zs (rs.take (k + 1)) I).2 ∧ (∃ c, cg ≤ c ∧ c ≤ cg + (k + 1 : Nat) ∧ Dk w5 p m c ks (ldA G g zs (rs.take (k + 1)) I).1 G) ∧ SlOk w5 a0 len cap zs ∧ Kp [p, m] w1 w5) := by
          show _ ∧ _
          rw [STEP.out, if_neg (by rw [NOK.out]; decide)]
          refine ⟨rfl, ⟨c, HCC.out.1, by have := HCC.out.2; omega, DR.out.next BW.out⟩, RR.out.next BW.out, KR.out.trans (Kp.of BW.out)⟩
        go_wp2_with fail
        exact ⟨⟨k + 1, t, by omega, by omega, by go_num, rfl, F.out⟩, by simp [intOf]; omega⟩
      subst hck
      have YOK : Hid (okL J G g i s zv = true) := OKL.out
      have D5 : Hid (Dk w5 p m c ks J G) := DR.out.next BW.out
      have R5 : Hid (SlOk w5 a0 len cap zs) := RR.out.next BW.out
      have PT5 := D5.out.put HX.out a n ca zv (SLV.out.next BW.out) HLN.out (by have := HCC.out; omega) (by have := HCC.out; omega) hne HCK.out.symm
      have q0 : w5.cell? ⟨wr.heap.size, 0, none⟩ = some (.int .u16 i) := by rw [cell_of_row _ _ 0 _ _ _ RC5.out]; rfl
      have q1 : w5.cell? ⟨wr.heap.size, 1, none⟩ = some (.int .u8 s) := by rw [cell_of_row _ _ 1 _ _ _ RC5.out]; rfl
      have q2 : w5.cell? ⟨wr.heap.size, 2, none⟩ = some (.slice a n ca) := by rw [cell_of_row _ _ 2 _ _ _ RC5.out]; rfl
      go_wp2_with fail
      refine PT5.mono ?_
      rintro e w6 ⟨rfl, hd6, hk6⟩
      have F : Hid (t + 1 = (ldA G g zs (rs.take (k + 1)) I).2 ∧ (∃ c, cg ≤ c ∧ c ≤ cg + (k + 1 : Nat) ∧ Dk w6 p m c ks (ldA G g zs (rs.take (k + 1)) I).1 G) ∧ SlOk w6 a0 len cap zs ∧ Kp [p, m] w1 w6) := by
        show _ ∧ _
        rw [STEP.out, if_pos YOK.out]
        obtain ⟨l5, b1, b2, _⟩ := D5.out
        refine ⟨rfl, ⟨c + 1, by have := HCC.out.1; omega, by have := HCC.out.2; omega, hd6⟩, R5.out.kpD b1 b2 hk6, (KR.out.trans (Kp.of BW.out)).trans hk6⟩
      clear PT5 hd6 hk6 q0 q1 q2
      go_wp2_with fail
      exact ⟨⟨k + 1, t + 1, by omega, by omega, by go_num, by go_num, F.out⟩, by simp [intOf]; omega⟩
    · obtain rfl : k = N := by omega
      have FIN : Hid (∃ c, Dk wr p m c ks (ldA G g zs rs I).1 G ∧ t = (ldA G g zs rs I).2) := by
        have e : rs.take k = rs := List.take_of_length_le (by have := HNN.out; have := RW.out.1; omega)
        rw [e] at HT HJ
        exact ⟨c, by rw [← HJ.out]; exact DR.out, HT.out⟩
      have KF : Hid (Kp [p, m] w wr) := (Kp.of B1.out).trans KR.out
      go_wp2_with fail
      go_ret2
      obtain ⟨c9, f1, f2⟩ := FIN.out
      exact .inr ⟨rs, c9, S1.out, by rw [← f2]; rfl, f1, KF.out⟩
#print axioms Dk.load
end Go.Proofs.YtpjmebaipnpegaaDoor
namespace Go.Proofs.YtpjmebaipnpegaaDoor
open Go.RowKit

theorem lookP_nodup : ∀ (l : Mp) (i s : Int) (v : Value), (keysOf l).Nodup → (i, s, v) ∈ l → lookP l i s = some v
  | [], _, _, _, _, h => by cases h
  | x :: l, i, s, v, hn, h => by
    simp only [keysOf, List.map_cons, List.nodup_cons] at hn
    simp only [lookP]
    rcases List.mem_cons.1 h with rfl | h
    · simp
    · rw [if_neg, lookP_nodup l i s v hn.2 h]
      intro hc
      obtain ⟨q1, q2⟩ : i = x.1 ∧ s = x.2.1 := by simpa using hc
      refine hn.1 ?_
      rw [← q1, ← q2]
      exact List.mem_map.2 ⟨_, h, rfl⟩
/-- An item, and its copy in rows of its own. -/
def CpI (W : World) (lo : Nat) (I : Int → Int → Option It) (x y : Int × Int × Value) : Prop := x.1 = y.1 ∧ x.2.1 = y.2.1 ∧ itG x.2.2 = itG y.2.2 ∧ ∃ it : It, I y.1 y.2.1 = some it ∧ ∃ nm a1 ld c1 a2 ll c2 a3 lh c3 gr av lv c zd, y.2.2 = .agg (itC y.1 y.2.1 nm it.t it.rt a1 ld c1 a2 ll c2 a3 lh c3 it.tg gr av lv c) ∧ Kept W lo a1 ld c1 zd ∧ Kept W lo a2 ll c2 it.zl ∧ Kept W lo a3 lh c3 it.zh ∧ Kept W lo av lv c it.zv ∧ ld ≤ 16777216 ∧ ll ≤ 16777216 ∧ lh ≤ 16777216 ∧ lv ≤ 16777216 ∧ (0 < Ty.Pl.sizeN it.t → (lv : Int) = Ty.Pl.sizeN it.t)
theorem CpI.kp {w w' : World} {lo : Nat} {I : Int → Int → Option It} {x y : Int × Int × Value} {S : List Nat} (h : CpI w lo I x y) (k : Kp S w w') (hS : ∀ b ∈ S, b < lo ∨ w.heap.size ≤ b) : CpI w' lo I x y := by
  obtain ⟨h1, h2, h3, it, h4, nm, a1, ld, c1, a2, ll, c2, a3, lh, c3, gr, av, lv, c, zd, e, k1, k2, k3, k4, g⟩ := h
  exact ⟨h1, h2, h3, it, h4, nm, a1, ld, c1, a2, ll, c2, a3, lh, c3, gr, av, lv, c, zd, e, k1.kp k hS, k2.kp k hS, k3.kp k hS, k4.kp k hS, g⟩
/-- Items, and their copies. -/
def CpL (W : World) (lo : Nat) (I : Int → Int → Option It) (dn l : Mp) : Prop := l.length = dn.length ∧ ∀ (k : Nat) (y : Int × Int × Value), l[k]? = some y → ∃ x, dn[k]? = some x ∧ CpI W lo I x y
theorem CpL.kp {w w' : World} {lo : Nat} {I : Int → Int → Option It} {dn l : Mp} {S : List Nat} (h : CpL w lo I dn l) (k : Kp S w w') (hS : ∀ b ∈ S, b < lo ∨ w.heap.size ≤ b) : CpL w' lo I dn l := ⟨h.1, fun j y hy => by
  obtain ⟨x, hx, hc⟩ := h.2 j y hy
  exact ⟨x, hx, hc.kp k hS⟩⟩
theorem CpL.snoc {W : World} {lo : Nat} {I : Int → Int → Option It} {dn l : Mp} (h : CpL W lo I dn l) {x y : Int × Int × Value} (hc : CpI W lo I x y) : CpL W lo I (dn ++ [x]) (l ++ [y]) := by
  refine ⟨by simp [h.1], fun k z hz => ?_⟩
  by_cases hk : k < l.length
  · rw [List.getElem?_append_left hk] at hz
    rw [List.getElem?_append_left (by have := h.1; omega)]
    exact h.2 k z hz
  · have hk2 : k = l.length := by
      have := (List.getElem?_eq_some_iff.1 hz).1
      simp at this
      omega
    subst hk2
    rw [List.getElem?_append_right (Nat.le_refl _)] at hz
    simp at hz
    subst hz
    exact ⟨x, by rw [h.1]; simp, hc⟩
theorem CpL.keys {W : World} {lo : Nat} {I : Int → Int → Option It} {dn l : Mp} (h : CpL W lo I dn l) : keysOf l = keysOf dn := by
  unfold keysOf
  apply List.ext_getElem (by simp [h.1])
  intro k h1 h2
  simp at h1 h2
  obtain ⟨x, hx, hc⟩ := h.2 k l[k] (List.getElem?_eq_getElem h1)
  obtain ⟨_, rfl⟩ := List.getElem?_eq_some_iff.1 hx
  simp only [List.getElem_map]
  rw [hc.1, hc.2.1]
/-- All items copied. -/
theorem copy_end {w W : World} {lo : Nat} {I : Int → Int → Option It} {lst dn l : Mp} (h : CpL W lo I dn l) (hp : dn.Perm lst) (hn : (keysOf lst).Nodup) (hI : ItD w lst I) : ItD W l I ∧ (keysOf l).Perm (keysOf lst) ∧ ∀ G, GrD lst G → GrD l G := by
  have hk : (keysOf l).Perm (keysOf lst) := by rw [h.keys]; exact hp.map _
  have hnl : (keysOf l).Nodup := hk.symm.nodup_iff.1 hn
  have back : ∀ j r u, lookP l j r = some u → ∃ x, (j, r, x) ∈ lst ∧ itG x = itG u ∧ ∃ it, I j r = some it := fun j r u hu => by
    obtain ⟨k, hk, hk2⟩ := List.getElem_of_mem (lookP_mem _ _ _ _ hu)
    obtain ⟨x, hx, h1, h2, h3, it, h4, _⟩ := h.2 k (j, r, u) (by rw [List.getElem?_eq_getElem hk, hk2])
    obtain ⟨xi, xs, xv⟩ := x
    dsimp only at h1 h2 h3 h4
    subst h1 h2
    exact ⟨xv, hp.mem_iff.1 (List.mem_of_getElem? hx), h3, it, h4⟩
  refine ⟨fun j r => ?_, hk, fun G hG j r u hu => ?_⟩
  · rcases hI j r with ⟨e1, e2⟩ | ⟨x, hx, nm, d, ld, cd, l1, ll, cl, h1, lh, ch, gr, v, lv, cv, zd, e, _⟩
    · refine .inl ⟨?_, e2⟩
      cases hq : lookP l j r with
      | none => rfl
      | some u =>
        obtain ⟨_, _, _, it, hit⟩ := back j r u hq
        rw [e2] at hit
        cases hit
    · obtain ⟨k, hk1, hk2⟩ := List.getElem_of_mem (hp.symm.mem_iff.1 (lookP_mem _ _ _ _ e))
      have hkl : k < l.length := by have := h.1; omega
      obtain ⟨x', hx', q1, q2, q3, it, q4, nm', a1, ld', c1, a2, ll', c2, a3, lh', c3, gr', av, lv', c, zd', ey, k1, k2, k3, k4, g⟩ := h.2 k l[k] (List.getElem?_eq_getElem hkl)
      rw [List.getElem?_eq_getElem hk1, hk2] at hx'
      cases hx'
      dsimp only at q1 q2
      have hy : l[k] = (j, r, l[k].2.2) := by
        have e1 : l[k].1 = j := q1.symm
        have e2 : l[k].2.1 = r := q2.symm
        rw [← e1, ← e2]
      rw [← q1, ← q2] at q4 ey
      rw [hx] at q4
      cases q4
      refine .inr ⟨x, hx, nm', a1, ld', c1, a2, ll', c2, a3, lh', c3, gr', av, lv', c, zd', ?_, k1.1, k2.1, k3.1, k4.1, g⟩
      rw [← ey]
      exact lookP_nodup l j r _ hnl (by rw [← hy]; exact List.getElem_mem _)
  · obtain ⟨x, hx, hg, _⟩ := back j r u hu
    rw [← hg]
    exact hG j r x (lookP_nodup lst j r x hn hx)
def eq3 (e : MapEntry) : Int × Int × Value := ((kq e).i, (kq e).s, e.val)
theorem eq3_of {es : List MapEntry} {lst : Mp} (h : es.map (fun e => (e.key, e.val)) = lst.map fun x => (plV x.1 x.2.1, x.2.2)) : es.map eq3 = lst := by
  have hk := (kq_of h).1
  have hl : es.length = lst.length := by simpa using congrArg List.length h
  apply List.ext_getElem (by simpa using hl)
  intro k h1 h2
  simp at h1
  have e1 := congrArg (·[k]?) h
  have e2 := congrArg (·[k]?) hk
  simp only [List.getElem?_map, List.getElem?_eq_getElem h1, List.getElem?_eq_getElem h2, Option.map_some, Option.some.injEq, Prod.mk.injEq] at e1 e2
  simp only [List.getElem_map, eq3]
  rw [e2, e1.2]
theorem not_left {dn : Mp} {l : List MapEntry} {lst : Mp} (hp : (dn ++ l.map eq3).Perm lst) (hn : (keysOf lst).Nodup) {e : MapEntry} (he : e ∈ l) : ∀ x ∈ dn, ¬ ((kq e).i = x.1 ∧ (kq e).s = x.2.1) := fun x hx hc => by
  have h1 : (keysOf (dn ++ l.map eq3)).Nodup := (hp.map (fun x : Int × Int × Value => (⟨x.1, x.2.1⟩ : Pq))).nodup_iff.2 hn
  unfold keysOf at h1
  rw [List.map_append, List.nodup_append] at h1
  refine h1.2.2 ⟨x.1, x.2.1⟩ (List.mem_map.2 ⟨x, hx, rfl⟩) ⟨x.1, x.2.1⟩ (List.mem_map.2 ⟨eq3 e, List.mem_map.2 ⟨e, he, rfl⟩, ?_⟩) rfl
  unfold eq3
  rw [hc.1, hc.2]
theorem lookP_key {l : Mp} {i s : Int} (h : ∀ x ∈ l, ¬ (i = x.1 ∧ s = x.2.1)) : lookP l i s = none := by
  induction l with
  | nil => rfl
  | cons x l ih =>
    simp only [lookP]
    rw [if_neg (by have := h x (by simp); simpa using this)]
    exact ih fun y hy => h y (by simp [hy])
/-- The first part of an item: its entry. -/
theorem loadIE (w : World) (B : Nat) (i s : Int) (nm : ByteArray) (t rt : Int) (d : Option Addr) (ld cd : Nat) (l : Option Addr) (ll cl : Nat) (h : Option Addr) (lh ch : Nat) (tg gr : Int) (v : Option Addr) (lv cv : Nat) (T : TypeId) (hb : w.heap[B]? = some (.cells (itC i s nm t rt d ld cd l ll cl h lh ch tg gr v lv cv) T (0, 0))) : (loadVar 44 ⟨B, 0, none⟩).run Tryd.prog w = .ok (.agg (enC i s nm t rt d ld cd l ll cl h lh ch tg gr)) w :=
  load_part 44 10 sizeE aggE w B 0 [.int .u16 i, .int .u8 s, .string nm, .int .u8 t, .int .u8 rt, .slice d ld cd, .slice l ll cl, .slice h lh ch, .int .u8 tg, .int .u8 gr, .slice v lv cv] T hb (by simp)

set_option linter.unusedSimpArgs false in
set_option maxHeartbeats 4000000 in
set_option maxRecDepth 100000 in
theorem copy_any (p m : Nat) (cg : Int) (lst : Mp) (I : Int → Int → Option It) (w : World) (hp : w.heap[p]? = some (.cells #[.map (some m), .int .i64 cg] 50 (0, 0))) (hm : IsM w m lst) (hI : ItD w lst I) (hnd : (keysOf lst).Nodup) :
    Calls Tryd.prog 20 #[.pointer (some ⟨p, 0, none⟩)] w fun e w' => ∃ l', e = .returned (.pointer (some ⟨w.heap.size + 1, 0, none⟩)) ∧ w'.heap[w.heap.size + 1]? = some (.cells #[.map (some w.heap.size), .int .i64 cg] 50 (0, 0)) ∧ IsM w' w.heap.size l' ∧ ItD w' l' I ∧ (keysOf l').Perm (keysOf lst) ∧ (∀ G, GrD lst G → GrD l' G) ∧ Below w.heap.size w w' := by
  have lp := lt_of_heap hp
  have lm := hm.lt
  have HII : Hid (ItD w lst I) := hI
  have HND : Hid ((keysOf lst).Nodup) := hnd
  obtain ⟨es, clock, hb, he, hs⟩ := hm
  have E3 : Hid (es.toList.map eq3 = lst) := eq3_of he
  have K2 : Hid (∀ e ∈ es.toList, e.key = .agg (kq e).A) := (kq_of he).2
  have KS : Hid (Stm es clock) := hs
  have HB : Hid (w.heap[m]? = some (.map es clock)) := hb
  have HP : Hid (w.heap[p]? = some (.cells #[.map (some m), .int .i64 cg] 50 (0, 0))) := hp
  have hmm := makeMap_run
  clear he hs hI hnd hb hp
  go_enter Tryd.func20, Tryd.ntmps20
  go_wp2_with fail
  refine wp_region_held_drew (S := fun x => Below w.heap.size w x) (by kernel_rfl) (Below.drew (Below.refl _ _)) (fun hHeld => ?_)
  refine tk 0 (.pointer (some ⟨p, 0, none⟩)) rfl (.inl ⟨by rfl, ?_⟩) ?_
  · intro w9 hSw
    try dsimp only at hSw
    go_simp
    all_goals try decide
    all_goals try assumption
    all_goals try omega
  try simp only [Act.put, gA, gS, gZ, sA, sZ, sS]
  refine tk 1 (.pointer (some ⟨p, 0, none⟩)) rfl (.inl ⟨by rfl, ?_⟩) ?_
  · intro w9 hSw
    try dsimp only at hSw
    go_simp
    all_goals try decide
    all_goals try assumption
    all_goals try omega
  try simp only [Act.put, gA, gS, gZ, sA, sZ, sS]
  refine tk 2 (.pointer (some ⟨p, 0, none⟩)) rfl (.inl ⟨by rfl, ?_⟩) ?_
  · intro w9 hSw
    try dsimp only at hSw
    go_simp
    all_goals try decide
    all_goals try assumption
    all_goals try omega
  try simp only [Act.put, gA, gS, gZ, sA, sZ, sS]
  refine tk 3 (.map (some m)) rfl (.inl ⟨by rfl, ?_⟩) ?_
  · intro w9 hSw
    try dsimp only at hSw
    have c0 : w9.cell? ⟨p, 0, none⟩ = some (.map (some m)) := by rw [cell_of_row _ _ 0 _ _ _ (blk11 hSw HP.out)]; rfl
    go_simp
    all_goals try assumption
  try simp only [Act.put, gA, gS, gZ, sA, sZ, sS]
  refine tk 4 (.int .i64 (es.size : Int)) rfl (.inl ⟨by rfl, ?_⟩) ?_
  · intro w9 hSw
    try dsimp only at hSw
    have hl9 := run_len_map (w := w9) (P := Tryd.prog) 48 3 m es clock Tryd.underlying48 (blk11 hSw HB.out)
    go_simp
    all_goals try rw [hl9]
  try simp only [Act.put, gA, gS, gZ, sA, sZ, sS]
  refine tk 6 (.pointer (some ⟨p, 0, none⟩)) rfl (.inl ⟨by rfl, ?_⟩) ?_
  · intro w9 hSw
    try dsimp only at hSw
    go_simp
    all_goals try decide
    all_goals try assumption
    all_goals try omega
  try simp only [Act.put, gA, gS, gZ, sA, sZ, sS]
  refine tk 7 (.pointer (some ⟨p, 0, none⟩)) rfl (.inl ⟨by rfl, ?_⟩) ?_
  · intro w9 hSw
    try dsimp only at hSw
    go_simp
    all_goals try decide
    all_goals try assumption
    all_goals try omega
  try simp only [Act.put, gA, gS, gZ, sA, sZ, sS]
  refine tk 8 (.pointer (some ⟨p, 1, none⟩)) rfl (.inl ⟨by rfl, ?_⟩) ?_
  · intro w9 hSw
    try dsimp only at hSw
    go_simp
    all_goals try decide
    all_goals try assumption
    all_goals try omega
  try simp only [Act.put, gA, gS, gZ, sA, sZ, sS]
  refine tk 9 (.int .i64 cg) rfl (.inl ⟨by rfl, ?_⟩) ?_
  · intro w9 hSw
    try dsimp only at hSw
    have c0 : w9.cell? ⟨p, 1, none⟩ = some (.int .i64 cg) := by rw [cell_of_row _ _ 1 _ _ _ (blk11 hSw HP.out)]; rfl
    go_simp
    all_goals try assumption
  try simp only [Act.put, gA, gS, gZ, sA, sZ, sS]
  refine wpAnyH_ready (rs := [5]) (by kernel_rfl) (by simp) ?_
  refine AllReadyH.cons rfl (fun K' hK => ?_) AllReadyH.nil
  rw [if_pos (by rfl)]
  simp only [gA, gS, gZ]
  go_wp2_with fail
  refine hK.out _ _ (Below.al hHeld _) (fun hHeld => ?_)
  clear hK K'
  try simp only [Act.put, gA, gS, gZ, sA, sZ, sS]
  refine tk 10 (.agg #[.map (some w.heap.size), .int .i64 cg]) rfl (.inl ⟨by rfl, ?_⟩) ?_
  · intro w9 hSw
    try dsimp only at hSw
    go_simp
    all_goals try decide
    all_goals try assumption
    all_goals try omega
  try simp only [Act.put, gA, gS, gZ, sA, sZ, sS]
  refine wpAnyH_ready (rs := [11]) (by kernel_rfl) (by simp) ?_
  refine AllReadyH.cons rfl (fun K' hK => ?_) AllReadyH.nil
  rw [if_pos (by rfl)]
  simp only [gA, gS, gZ]
  go_wp2_with fail
  refine hK.out _ _ (Below.al hHeld _) (fun hHeld => ?_)
  clear hK K'
  try simp only [Act.put, gA, gS, gZ, sA, sZ, sS]
  refine tk 12 (.pointer (some ⟨w.heap.size + 1, 0, none⟩)) rfl (.inl ⟨by rfl, ?_⟩) ?_
  · intro w9 hSw
    try dsimp only at hSw
    go_simp
    all_goals try decide
    all_goals try assumption
    all_goals try omega
  try simp only [Act.put, gA, gS, gZ, sA, sZ, sS]
  refine wpAnyH_done (by kernel_rfl) ?_ _
  obtain ⟨W0, HW0⟩ : ∃ W0, Hid (((w.alloc (.map #[] 0)).alloc (.cells #[.map (some w.heap.size), .int .i64 cg] 50)).drew = W0) := ⟨_, rfl⟩
  have B0 : Hid (Below w.heap.size w W0) := by show Below _ _ _; rw [← HW0.out]; exact hHeld
  have M0 : Hid (IsM W0 w.heap.size []) := by show IsM _ _ _; rw [← HW0.out]; exact (isM_new w).next (Below.drew (Below.al (Below.refl _ _) _))
  have P0 : Hid (W0.heap[w.heap.size + 1]? = some (.cells #[.map (some w.heap.size), .int .i64 cg] 50 (0, 0))) := by show _ = _; rw [← HW0.out]; exact at11 _ _ _ (by simp)
  have S0 : Hid (W0.heap.size = w.heap.size + 2) := by show _ = _; rw [← HW0.out]; simp
  rw [show ((w.alloc _).alloc _).drew = W0 from HW0.out]
  clear HW0 hHeld hmm
  have c0 : W0.cell? ⟨p, 0, none⟩ = some (.map (some m)) := by rw [cell_of_row _ _ 0 _ _ _ (blk11 B0.out HP.out)]; rfl
  have hb0 : W0.heap[m]? = some (.map es clock) := blk11 B0.out HB.out
  go_wp2_with (at_range; refine wpList_range_m rfl _ rfl m es clock rfl hb0 ?_)
  go_frame
  clear hb0 c0
  obtain ⟨r, HRr⟩ : ∃ r, Hid (r = W0.heap.size) := ⟨_, rfl⟩
  rw [← HRr.out]
  have HR2 : Hid (r = w.heap.size + 2) := by show _ = _; rw [HRr.out, S0.out]
  go_loopw [25] (fun _ wr => ∃ (dn l : Mp) (seen : Array Nat), Hid (wr.heap[r]? = some (.mapIter (some m) clock seen clock) ∧ wr.heap[w.heap.size + 1]? = some (.cells #[.map (some w.heap.size), .int .i64 cg] 50 (0, 0)) ∧ IsM wr w.heap.size l ∧ CpL wr (w.heap.size + 3) I dn l ∧ (dn ++ (leftOf es seen).toList.map eq3).Perm lst ∧ Below w.heap.size w wr ∧ w.heap.size + 3 ≤ wr.heap.size)) (fun _ wr => wr.rangeLeft m r)
  case atStart => exact ⟨[], [], #[], at11 _ _ _ HRr.out, ext11 P0.out, M0.out.next (Below.al (Below.refl _ _) _), ⟨rfl, fun k y hy => by simp at hy⟩, by rw [left_all, List.nil_append, E3.out], Below.al B0.out _, by have := S0.out; simp; omega⟩
  case round =>
    obtain ⟨dn, l1, seen, H⟩ := hrel
    have hr := H.out.1
    have hb' : wr.heap[m]? = some (.map es clock) := (H.out.2.2.2.2.2.1.block m lm).trans HB.out
    go_wp2_with (first | (at_next; refine wpList_next_m rfl _ rfl m r clock seen es rfl hr hb' KS.out (by have := HR2.out; omega) ?_ ?_) | go_in)
    · intro h0
      have HE := H.out.2.2.2.2.1
      rw [h0, List.map_nil, List.append_nil] at HE
      have CE := copy_end H.out.2.2.2.1 HE HND.out HII.out
      have FIN : Hid (wr.heap[w.heap.size + 1]? = some (.cells #[.map (some w.heap.size), .int .i64 cg] 50 (0, 0)) ∧ IsM wr w.heap.size l1 ∧ ItD wr l1 I ∧ (keysOf l1).Perm (keysOf lst) ∧ (∀ G, GrD lst G → GrD l1 G) ∧ Below w.heap.size w wr) := ⟨H.out.2.1, H.out.2.2.1, CE.1, CE.2.1, CE.2.2, H.out.2.2.2.2.2.1⟩
      clear HE CE
      go_wp2_with fail
      go_ret
      exact ⟨l1, rfl, FIN.out⟩
    · intro e w1 hmem hes hsz1 hkp hr1 hen
      have hes' : e ∈ es.toList := by simpa using hes
      have ek := K2.out e hes'
      obtain ⟨y, hy⟩ : ∃ y, Hid (y = kq e) := ⟨_, rfl⟩
      have HK : Hid (e ∈ (leftOf es seen).toList) := by show _ ∈ _; simpa using hmem
      have hin : (y.i, y.s, e.val) ∈ lst := by rw [← E3.out, hy.out]; exact List.mem_map.2 ⟨e, hes', rfl⟩
      have hlk := lookP_nodup lst y.i y.s e.val HND.out hin
      obtain ⟨it, hit, nm, d, ld, cd, l, ll, cl, h, lh, ch, gr, v, lv, cv, zd, hu, r1, r2, r3, r4, g1, g2, g3, g4, g5⟩ : ∃ it : It, I y.i y.s = some it ∧ ∃ nm d ld cd l ll cl h lh ch gr v lv cv zd, e.val = .agg (itC y.i y.s nm it.t it.rt d ld cd l ll cl h lh ch it.tg gr v lv cv) ∧ SlOk w d ld cd zd ∧ SlOk w l ll cl it.zl ∧ SlOk w h lh ch it.zh ∧ SlOk w v lv cv it.zv ∧ ld ≤ 16777216 ∧ ll ≤ 16777216 ∧ lh ≤ 16777216 ∧ lv ≤ 16777216 ∧ (0 < Ty.Pl.sizeN it.t → (lv : Int) = Ty.Pl.sizeN it.t) := by
        rcases HII.out y.i y.s with ⟨e1, _⟩ | ⟨it, hit, nm, d, ld, cd, l, ll, cl, h, lh, ch, gr, v, lv, cv, zd, e1, rest⟩
        · rw [e1] at hlk; cases hlk
        · rw [e1] at hlk
          injection hlk with hlk
          exact ⟨it, hit, nm, d, ld, cd, l, ll, cl, h, lh, ch, gr, v, lv, cv, zd, hlk.symm, rest⟩
      rw [ek, ← hy.out, hu] at hen ⊢
      have NL : Hid (lookP l1 y.i y.s = none) := by
        refine lookP_key fun x hx => ?_
        have hkx : (⟨x.1, x.2.1⟩ : Pq) ∈ keysOf dn := by rw [← H.out.2.2.2.1.keys]; exact List.mem_map.2 ⟨x, hx, rfl⟩
        obtain ⟨x', hx', hq⟩ := List.mem_map.1 hkx
        have := not_left H.out.2.2.2.2.1 HND.out HK.out x' hx'
        rw [← hy.out] at this
        injection hq with q1 q2
        rw [q1, q2] at this
        exact this
      have HV : Hid (e.val = .agg (itC y.i y.s nm it.t it.rt d ld cd l ll cl h lh ch it.tg gr v lv cv)) := hu
      have HIT : Hid (I y.i y.s = some it) := hit
      obtain ⟨i, s⟩ := y
      dsimp only [Pq.A] at hen NL HV HIT ⊢
      obtain ⟨t, rt, tg, zl, zh, zv⟩ := it
      dsimp only at hen NL HV HIT r2 r3 r4 g5 ⊢
      have E1 : Hid (Kp [r] wr w1) := hkp
      have E2 : Hid (w1.heap[r]? = some (.mapIter (some m) clock (seen.push e.born) clock)) := hr1
      have hS3 : ∀ b ∈ [r], b < w.heap.size + 3 ∨ wr.heap.size ≤ b := fun b hb => by have := HR2.out; simp at hb; omega
      have C1 : Hid (CpL w1 (w.heap.size + 3) I dn l1) := H.out.2.2.2.1.kp hkp hS3
      have B1 : Hid (Below w.heap.size w w1) := Kp.below H.out.2.2.2.2.2.1 hkp (by have := H.out.2.2.2.2.2.1.size; omega) (by have := HR2.out; simp; omega)
      have M1 : Hid (IsM w1 w.heap.size l1) := H.out.2.2.1.kp hkp (by have := HR2.out; simp; omega)
      have P1 : Hid (w1.heap[w.heap.size + 1]? = some (.cells #[.map (some w.heap.size), .int .i64 cg] 50 (0, 0))) := hkp.at (by have := HR2.out; simp; omega) H.out.2.1
      have S1 : Hid (w.heap.size + 3 ≤ w1.heap.size) := by have := H.out.2.2.2.2.2.2; show _ ≤ _; omega
      have PL := left_push KS.out.2 HK.out
      have PP : Hid (((dn ++ [(i, s, e.val)]) ++ (leftOf es (seen.push e.born)).toList.map eq3).Perm lst) := by
        refine List.Perm.trans ?_ H.out.2.2.2.2.1
        rw [List.append_assoc]
        refine List.Perm.append_left _ ?_
        have he3 : eq3 e = (i, s, e.val) := by unfold eq3; rw [← hy.out]
        have := (PL.map eq3).symm
        rw [List.map_cons, he3] at this
        exact this
      have ML : Hid ((leftOf es (seen.push e.born)).size < (leftOf es seen).size) := by
        have := PL.length_eq
        simp at this
        show _ < _
        omega
      have HCO : Hid (∀ W, Below w.heap.size w W → Calls Tryd.prog 15 #[.agg (enC i s nm t rt d ld cd l ll cl h lh ch tg gr)] W (CopyPost i s nm t rt ld ll lh tg gr zd zl zh W)) := fun W hb => copyOf_any i s nm t rt d ld cd l ll cl h lh ch tg gr zd zl zh W (r1.next hb) (r2.next hb) (r3.next hb) g1 g2 g3
      have HCL : Hid (∀ W, Below w.heap.size w W → Calls Tryd.prog 16 #[.slice v lv cv] W fun e w' => (∃ a' cap', e = .returned (.slice a' lv cap') ∧ Told W w' a' lv cap' zv) ∧ Below W.heap.size W w') := fun W hb => clone8_any v lv cv zv W (r4.row.next hb) g4
      have HG : Hid (ld ≤ 16777216 ∧ ll ≤ 16777216 ∧ lh ≤ 16777216 ∧ lv ≤ 16777216 ∧ (0 < Ty.Pl.sizeN t → (lv : Int) = Ty.Pl.sizeN t)) := ⟨g1, g2, g3, g4, g5⟩
      clear hsz1 hmem hes hes' hkp hr1 ek hin hlk hu hit r1 r2 r3 r4 g1 g2 g3 g4 g5 hS3 PL hy
      go_wp2_with fail
      obtain ⟨W2, HW2⟩ : ∃ W2, Hid ((w1.alloc (.cells #[.int .u16 i, .int .u8 s] 33)).alloc (.cells (itC i s nm t rt d ld cd l ll cl h lh ch tg gr v lv cv) 54) = W2) := ⟨_, rfl⟩
      have B2 : Hid (Below w1.heap.size w1 W2) := by show Below _ _ _; rw [← HW2.out]; exact (by repeat (first | exact Below.refl _ _ | apply Below.drew | apply Below.al))
      have PL2 : Hid (W2.heap[w1.heap.size]? = some (.cells #[.int .u16 i, .int .u8 s] 33 (0, 0))) := by show _ = _; rw [← HW2.out]; exact ext11 (at11 _ _ _ rfl)
      have IT2 : Hid (W2.heap[w1.heap.size + 1]? = some (.cells (itC i s nm t rt d ld cd l ll cl h lh ch tg gr v lv cv) 54 (0, 0))) := by show _ = _; rw [← HW2.out]; exact at11 _ _ _ (by simp)
      have M2 : Hid (IsM W2 w.heap.size l1) := M1.out.next B2.out
      have P2 : Hid (W2.heap[w.heap.size + 1]? = some (.cells #[.map (some w.heap.size), .int .i64 cg] 50 (0, 0))) := blk11 B2.out P1.out
      rw [show (w1.alloc _).alloc _ = W2 from HW2.out]
      clear HW2
      have BWR : Hid (∀ x, Kp [w.heap.size] W2 x → Below w.heap.size w x) := fun x hx => Kp.below (Below.andThen B1.out B2.out) hx (by have := B1.out.size; have := B2.out.size; omega) (by simp)
      have s1 := S1.out
      refine wp_region_held_drew (S := fun x => Kp [w.heap.size] W2 x) (by kernel_rfl) (Kp.drew (Kp.refl _ _)) (fun hHeld => ?_)
      refine tk 0 (.pointer (some ⟨w.heap.size + 1, 0, none⟩)) rfl (.inl ⟨by rfl, ?_⟩) ?_
      · intro w9 hSw
        try dsimp only at hSw
        go_simp
        all_goals try decide
        all_goals try assumption
        all_goals try omega
      try simp only [Act.put, gA, gS, gZ, sA, sZ, sS]
      refine tk 1 (.pointer (some ⟨w.heap.size + 1, 0, none⟩)) rfl (.inl ⟨by rfl, ?_⟩) ?_
      · intro w9 hSw
        try dsimp only at hSw
        go_simp
        all_goals try decide
        all_goals try assumption
        all_goals try omega
      try simp only [Act.put, gA, gS, gZ, sA, sZ, sS]
      refine tk 2 (.pointer (some ⟨w.heap.size + 1, 0, none⟩)) rfl (.inl ⟨by rfl, ?_⟩) ?_
      · intro w9 hSw
        try dsimp only at hSw
        go_simp
        all_goals try decide
        all_goals try assumption
        all_goals try omega
      try simp only [Act.put, gA, gS, gZ, sA, sZ, sS]
      refine tk 3 (.map (some w.heap.size)) rfl (.inl ⟨by rfl, ?_⟩) ?_
      · intro w9 hSw
        try dsimp only at hSw
        have c0 : w9.cell? ⟨w.heap.size + 1, 0, none⟩ = some (.map (some w.heap.size)) := by rw [cell_of_row _ _ 0 _ _ _ (hSw.at (by simp) P2.out)]; rfl
        go_simp
        all_goals try assumption
      try simp only [Act.put, gA, gS, gZ, sA, sZ, sS]
      refine tk 4 (plV i s) rfl (.inl ⟨by rfl, ?_⟩) ?_
      · intro w9 hSw
        try dsimp only at hSw
        exact ex_load11 33 (.tmp 4) rfl _ _ rfl (load_part 33 2 sizeP aggP _ (w1.heap.size) 0 [.int .u16 i, .int .u8 s] _ (hSw.at (by simp; omega) PL2.out) (by simp))
      try simp only [Act.put, gA, gS, gZ, sA, sZ, sS]
      refine tk 5 (.pointer (some ⟨w1.heap.size + 1, 0, none⟩)) rfl (.inl ⟨by rfl, ?_⟩) ?_
      · intro w9 hSw
        try dsimp only at hSw
        go_simp
        all_goals try decide
        all_goals try assumption
        all_goals try omega
      try simp only [Act.put, gA, gS, gZ, sA, sZ, sS]
      refine tk 6 (.agg (enC i s nm t rt d ld cd l ll cl h lh ch tg gr)) rfl (.inl ⟨by rfl, ?_⟩) ?_
      · intro w9 hSw
        try dsimp only at hSw
        exact ex_load11 44 (.tmp 35) rfl _ _ rfl (loadIE _ _ i s nm t rt d ld cd l ll cl h lh ch tg gr v lv cv _ (hSw.at (by simp; omega) IT2.out))
      try simp only [Act.put, gA, gS, gZ, sA, sZ, sS]
      refine tk 8 (.pointer (some ⟨w1.heap.size + 1, 10, none⟩)) rfl (.inl ⟨by rfl, ?_⟩) ?_
      · intro w9 hSw
        try dsimp only at hSw
        go_simp
        all_goals try decide
        all_goals try assumption
        all_goals try omega
      try simp only [Act.put, gA, gS, gZ, sA, sZ, sS]
      refine tk 9 (.slice v lv cv) rfl (.inl ⟨by rfl, ?_⟩) ?_
      · intro w9 hSw
        try dsimp only at hSw
        have c0 : w9.cell? ⟨w1.heap.size + 1, 10, none⟩ = some (.slice v lv cv) := by rw [cell_of_row _ _ 10 _ _ _ (hSw.at (by simp; omega) IT2.out)]; rfl
        go_simp
        all_goals try assumption
      try simp only [Act.put, gA, gS, gZ, sA, sZ, sS]
      refine wpAnyH_ready (rs := [7]) (by kernel_rfl) (by simp) ?_
      refine AllReadyH.cons rfl (fun K' hK => ?_) AllReadyH.nil
      rw [if_pos (by rfl)]
      simp only [gA, gS, gZ]
      go_wp2_with fail
      refine (HCO.out _ (BWR.out _ hHeld)).mono ?_
      rintro e w6 ⟨a1, c1, a2, c2, a3, c3, rfl, t1, t2, t3, hb6⟩
      have T1 : Hid (Told _ w6 a1 ld c1 zd) := t1
      have T2 : Hid (Told _ w6 a2 ll c2 zl) := t2
      have T3 : Hid (Told _ w6 a3 lh c3 zh) := t3
      have N6 : Hid (Below W2.drew.heap.size W2.drew w6) := hb6
      clear t1 t2 t3
      try go_wp2_with fail
      refine hK.out _ _ (hHeld.trans (Kp.of hb6)) (fun hHeld => ?_)
      clear hK K'
      try simp only [Act.put, gA, gS, gZ, sA, sZ, sS]
      refine wpAnyH_ready (rs := [10]) (by kernel_rfl) (by simp) ?_
      refine AllReadyH.cons rfl (fun K' hK => ?_) AllReadyH.nil
      rw [if_pos (by rfl)]
      simp only [gA, gS, gZ]
      go_wp2_with fail
      refine (HCL.out _ (BWR.out _ hHeld)).mono ?_
      rintro e w8 ⟨⟨av, c4, rfl, htv⟩, hb8⟩
      have TV : Hid (Told w6 w8 av lv c4 zv) := htv
      have N8 : Hid (Below w6.heap.size w6 w8) := hb8
      clear htv
      try go_wp2_with fail
      refine hK.out _ _ (hHeld.trans (Kp.of hb8)) (fun hHeld => ?_)
      clear hK K'
      try simp only [Act.put, gA, gS, gZ, sA, sZ, sS]
      refine tk 11 (.agg (itC i s nm t rt a1 ld c1 a2 ll c2 a3 lh c3 tg gr av lv c4)) rfl (.inl ⟨by rfl, ?_⟩) ?_
      · intro w9 hSw
        try dsimp only at hSw
        go_simp
        all_goals try decide
        all_goals try assumption
        all_goals try omega
      try simp only [Act.put, gA, gS, gZ, sA, sZ, sS]
      refine wpAnyH_ready (rs := [12]) (by kernel_rfl) (by simp) ?_
      refine AllReadyH.cons rfl (fun K' hK => ?_) AllReadyH.nil
      rw [if_pos (by rfl)]
      simp only [gA, gS, gZ]
      have M8 : Hid (IsM w8 w.heap.size l1) := ((show IsM W2.drew w.heap.size l1 from M2.out).next N6.out).next N8.out
      obtain ⟨w9, hrun, hM9, hK9⟩ := upd_run w8 w.heap.size l1 i s (.agg (itC i s nm t rt a1 ld c1 a2 ll c2 a3 lh c3 tg gr av lv c4)) M8.out
      have M9 : Hid (IsM w9 w.heap.size (putP l1 i s (.agg (itC i s nm t rt a1 ld c1 a2 ll c2 a3 lh c3 tg gr av lv c4)))) := hM9
      have K9 : Hid (Kp [w.heap.size] w8 w9) := hK9
      have K29 : Hid (Kp [w.heap.size] W2 w9) := hHeld.trans hK9
      refine wp_upd_by 48 _ _ _ rfl _ _ _ rfl rfl rfl hrun ?_
      refine hK.out _ _ (K29.out) (fun hHeld => ?_)
      clear hK K'
      try simp only [Act.put, gA, gS, gZ, sA, sZ, sS]
      refine wpAnyH_done (by kernel_rfl) ?_ _
      have Z9 : Hid (w9.heap[r]? = some (.mapIter (some m) clock (seen.push e.born) clock)) := K29.out.at (by have := HR2.out; simp; omega) (blk11 B2.out E2.out)
      have P9 : Hid (w9.heap[w.heap.size + 1]? = some (.cells #[.map (some w.heap.size), .int .i64 cg] 50 (0, 0))) := K29.out.at (by simp) P2.out
      have B9 : Hid (Below w.heap.size w w9) := BWR.out _ K29.out
      have hS : ∀ {x : World}, ∀ b ∈ [w.heap.size], b < w.heap.size + 3 ∨ x.heap.size ≤ b := fun b hb => by simp at hb; omega
      have s2 : w.heap.size + 3 ≤ W2.heap.size := by have := B2.out.size; omega
      have n69 : Kp [w.heap.size] w6 w9 := (Kp.of N8.out).trans K9.out
      have C9 : Hid (CpL w9 (w.heap.size + 3) I (dn ++ [(i, s, e.val)]) (l1 ++ [(i, s, .agg (itC i s nm t rt a1 ld c1 a2 ll c2 a3 lh c3 tg gr av lv c4))])) := by
        refine (C1.out.kp ((Kp.of B2.out).trans K29.out) hS).snoc ?_
        refine ⟨rfl, rfl, by rw [HV.out]; rfl, _, HIT.out, nm, a1, ld, c1, a2, ll, c2, a3, lh, c3, gr, av, lv, c4, zd, rfl, ?_, ?_, ?_, ?_, HG.out⟩
        · exact (T1.out.kept s2).kp n69 hS
        · exact (T2.out.kept s2).kp n69 hS
        · exact (T3.out.kept s2).kp n69 hS
        · exact (TV.out.kept (Nat.le_trans s2 N6.out.size)).kp K9.out hS
      have M9' : Hid (IsM w9 w.heap.size (l1 ++ [(i, s, .agg (itC i s nm t rt a1 ld c1 a2 ll c2 a3 lh c3 tg gr av lv c4))])) := by
        have := M9.out
        rw [look_put NL.out] at this
        exact this
      have S9 : Hid (w.heap.size + 3 ≤ w9.heap.size) := Nat.le_trans s2 K29.out.size
      have zr : w9.heap[r]? = some (.mapIter (some m) clock (seen.push e.born) clock) := Z9.out
      have zm : w9.heap[m]? = some (.map es clock) := (B9.out.block m lm).trans HB.out
      clear hS n69 s2 s1
      go_wp2_with fail
      refine ⟨⟨_, _, seen.push e.born, zr, P9.out, M9'.out, C9.out, PP.out, B9.out, S9.out⟩, ?_⟩
      simp only [World.rangeLeft, zr, zm, hr, hb']
      exact ML.out
#print axioms copy_any
end Go.Proofs.YtpjmebaipnpegaaDoor
namespace Go.Proofs.YtpjmebaipnpegaaDoor
open Go.RowKit

/-- The records of rows of values, from a place on. -/
def rcO (val : Int → Int → List Int) : Nat → List Pq → List R4
  | _, [] => []
  | o, x :: l => (x.i, x.s, o + 5, (val x.i x.s).length) :: rcO val (o + 5 + (val x.i x.s).length) l
theorem rcO_len (val : Int → Int → List Int) : ∀ (l : List Pq) (o : Nat), (rcO val o l).length = l.length
  | [], _ => rfl
  | x :: l, o => by simp only [rcO, List.length_cons]; rw [rcO_len val l]
def byO (val : Int → Int → List Int) (l : List Pq) : List Int := l.flatMap fun x => recB x.i x.s (val x.i x.s)
/-- A place and a value as they may be saved. -/
def SvOk (val : Int → Int → List Int) (x : Pq) : Prop := 0 ≤ x.i ∧ x.i < 65536 ∧ 0 ≤ x.s ∧ x.s < 256 ∧ (val x.i x.s).length ≤ 65535
theorem recB_len (i s : Int) (z : List Int) : (recB i s z).length = 5 + z.length := by unfold recB; simp; omega
theorem app_getD (A B : List Int) (k : Nat) : (A ++ B).getD (A.length + k) 0 = B.getD k 0 := by
  rw [List.getD_eq_getElem?_getD, List.getD_eq_getElem?_getD, List.getElem?_append_right (by omega)]
  congr 2
  omega
theorem rd_rec (A R : List Int) (val : Int → Int → List Int) (x : Pq) (hx : SvOk val x) : rd (A ++ (recB x.i x.s (val x.i x.s) ++ R)) A.length = some (x.i, x.s, A.length + 5, (val x.i x.s).length) := by
  obtain ⟨h1, h2, h3, h4, h5⟩ := hx
  have hl : (A ++ (recB x.i x.s (val x.i x.s) ++ R)).length = A.length + (5 + (val x.i x.s).length) + R.length := by rw [List.length_append, List.length_append, recB_len]; omega
  have e0 := app_getD A (recB x.i x.s (val x.i x.s) ++ R) 0
  have e1 := app_getD A (recB x.i x.s (val x.i x.s) ++ R) 1
  have e2 := app_getD A (recB x.i x.s (val x.i x.s) ++ R) 2
  have e3 := app_getD A (recB x.i x.s (val x.i x.s) ++ R) 3
  have e4 := app_getD A (recB x.i x.s (val x.i x.s) ++ R) 4
  simp only [Nat.add_zero] at e0
  generalize hzz : A ++ (recB x.i x.s (val x.i x.s) ++ R) = zs at *
  have g0 : (recB x.i x.s (val x.i x.s) ++ R).getD 0 0 = x.i % 256 := by simp [recB]
  have g1 : (recB x.i x.s (val x.i x.s) ++ R).getD 1 0 = x.i / 256 := by simp [recB]
  have g2 : (recB x.i x.s (val x.i x.s) ++ R).getD 2 0 = x.s := by simp [recB]
  have g3 : (recB x.i x.s (val x.i x.s) ++ R).getD 3 0 = ((val x.i x.s).length : Int) % 256 := by simp [recB]
  have g4 : (recB x.i x.s (val x.i x.s) ++ R).getD 4 0 = ((val x.i x.s).length : Int) / 256 % 256 := by simp [recB]
  unfold rd
  rw [e0, e1, e2, e3, e4, g0, g1, g2, g3, g4]
  have n1 : (w2 (((val x.i x.s).length : Int) % 256) (((val x.i x.s).length : Int) / 256 % 256)).toNat = (val x.i x.s).length := by unfold w2; omega
  have n2 : w2 (x.i % 256) (x.i / 256) = x.i := by unfold w2; omega
  rw [n1, n2, if_neg (by omega), if_neg (by omega)]
/-- A row of records, each behind the one ahead, is read back. -/
theorem rcs_by (val : Int → Int → List Int) : ∀ (l : List Pq) (A : List Int) (acc : List R4) (f : Nat), (∀ x ∈ l, SvOk val x) → l.Pairwise (fun x y => cfP x y < 0) → (∀ r, acc.getLast? = some r → ∀ x ∈ l, cfP ⟨r.1, r.2.1⟩ x < 0) → (byO val l).length < f → rcs (A ++ byO val l) f A.length acc = some (acc ++ rcO val A.length l)
  | [], A, acc, f, _, _, _, hf => by
    obtain ⟨f, rfl⟩ : ∃ f', f = f' + 1 := ⟨f - 1, by omega⟩
    simp [rcs, byO, rcO]
  | x :: l, A, acc, f, hs, hp, ha, hf => by
    obtain ⟨f, rfl⟩ : ∃ f', f = f' + 1 := ⟨f - 1, by omega⟩
    have hb : byO val (x :: l) = recB x.i x.s (val x.i x.s) ++ byO val l := by unfold byO; rw [List.flatMap_cons]
    have hr := rd_rec A (byO val l) val x (hs x List.mem_cons_self)
    rw [hb] at hf ⊢
    rw [List.length_append, recB_len] at hf
    simp only [rcs]
    rw [if_neg (by rw [List.length_append, List.length_append, recB_len]; omega), hr]
    simp only
    have hbad : badP acc (x.i, x.s, A.length + 5, (val x.i x.s).length) = false := by
      unfold badP
      cases hq : acc.getLast? with
      | none => rfl
      | some r =>
        have hlt : cfP ⟨r.1, r.2.1⟩ ⟨x.i, x.s⟩ < 0 := ha r hq x List.mem_cons_self
        simp only [decide_eq_false_iff_not]
        omega
    rw [hbad]
    simp only [Bool.false_eq_true, if_false]
    have hp2 := List.pairwise_cons.1 hp
    have := rcs_by val l (A ++ recB x.i x.s (val x.i x.s)) (acc ++ [(x.i, x.s, A.length + 5, (val x.i x.s).length)]) f (fun y hy => hs y (List.mem_cons_of_mem _ hy)) hp2.2 (fun r hr2 y hy => by
      rw [List.getLast?_append] at hr2
      simp at hr2
      subst hr2
      exact hp2.1 y hy) (by omega)
    rw [List.append_assoc, List.length_append, recB_len, List.append_assoc] at this
    simp only [rcO]
    rw [show A.length + 5 + (val x.i x.s).length = A.length + (5 + (val x.i x.s).length) by omega]
    exact this
theorem rcV_by (val : Int → Int → List Int) (A R : List Int) (x : Pq) : rcV (A ++ (recB x.i x.s (val x.i x.s) ++ R)) (x.i, x.s, A.length + 5, (val x.i x.s).length) = val x.i x.s := by
  unfold rcV
  dsimp only
  rw [List.drop_append, List.drop_of_length_le (by omega), List.nil_append, show A.length + 5 - A.length = 5 by omega]
  unfold recB
  rw [List.append_assoc]
  simp
theorem SameI.okL {I J : Int → Int → Option It} (h : SameI I J) (G : Int → Int → Int) (g i s : Int) (z : List Int) : okL J G g i s z = okL I G g i s z := by
  unfold Go.Proofs.YtpjmebaipnpegaaDoor.okL
  rcases h i s with ⟨h1, h2⟩ | ⟨x, y, h1, h2, h3, h4, h5, h6⟩
  · rw [h1, h2]
  · rw [h1, h2]
    simp only
    rw [h3, h4, h5, h6]
/-- All of them are taken. -/
theorem ld_by (G : Int → Int → Int) (g : Int) (val : Int → Int → List Int) (I : Int → Int → Option It) : ∀ (l : List Pq) (A : List Int) (J : Int → Int → Option It) (k : Nat), SameI I J → (∀ x ∈ l, okL I G g x.i x.s (val x.i x.s) = true) → (rcO val A.length l).foldl (ld1 G g (A ++ byO val l)) (J, k) = (putA J (l.map fun x => (x.i, x.s, val x.i x.s)), k + l.length)
  | [], A, J, k, _, _ => by simp [rcO, putA]
  | x :: l, A, J, k, hs, ho => by
    have hb : byO val (x :: l) = recB x.i x.s (val x.i x.s) ++ byO val l := by unfold byO; rw [List.flatMap_cons]
    simp only [rcO, List.foldl_cons]
    have h1 : ld1 G g (A ++ byO val (x :: l)) (J, k) (x.i, x.s, A.length + 5, (val x.i x.s).length) = (putI J x.i x.s (val x.i x.s), k + 1) := by
      unfold ld1
      rw [hb, rcV_by]
      dsimp only
      rw [hs.okL, ho x List.mem_cons_self]
      simp
    rw [h1]
    have := ld_by G g val I l (A ++ recB x.i x.s (val x.i x.s)) (putI J x.i x.s (val x.i x.s)) (k + 1) (hs.put _ _ _) (fun y hy => ho y (List.mem_cons_of_mem _ hy))
    rw [List.length_append, recB_len, List.append_assoc, ← hb] at this
    rw [show A.length + 5 + (val x.i x.s).length = A.length + (5 + (val x.i x.s).length) by omega, this]
    simp only [List.map_cons, List.length_cons]
    refine Prod.ext rfl ?_
    show k + 1 + l.length = k + (l.length + 1)
    omega
theorem SameI.stK {I J : Int → Int → Option It} (h : SameI I J) (G : Int → Int → Int) (g : Int) (x : Pq) : stK J G g x = stK I G g x := by
  unfold Go.Proofs.YtpjmebaipnpegaaDoor.stK
  rcases h x.i x.s with ⟨h1, h2⟩ | ⟨a, b, h1, h2, h3, h4, _⟩
  · rw [h1, h2]
  · rw [h1, h2]
    simp only
    rw [h4]
theorem SameI.stoK {I J : Int → Int → Option It} (h : SameI I J) (ks : List Pq) (G : Int → Int → Int) (g : Int) : stoK ks J G g = stoK ks I G g := by
  unfold Go.Proofs.YtpjmebaipnpegaaDoor.stoK
  congr 1
  funext x
  exact h.stK G g x
theorem SameI.trans {I J K : Int → Int → Option It} (h : SameI I J) (h' : SameI J K) : SameI I K := fun i s => by
  rcases h i s with ⟨r1, r2⟩ | ⟨x, y, r1, r2, r3, r4, r5, r6⟩
  · rcases h' i s with ⟨_, t2⟩ | ⟨x', y', t1, _⟩
    · exact .inl ⟨r1, t2⟩
    · rw [r2] at t1; cases t1
  · rcases h' i s with ⟨t1, _⟩ | ⟨x', y', t1, t2, t3, t4, t5, t6⟩
    · rw [r2] at t1; cases t1
    · rw [r2] at t1
      cases t1
      exact .inr ⟨x, y', r1, t2, t3.trans r3, t4.trans r4, t5.trans r5, t6.trans r6⟩
theorem SameI.symm {I J : Int → Int → Option It} (h : SameI I J) : SameI J I := fun i s => by
  rcases h i s with ⟨r1, r2⟩ | ⟨x, y, r1, r2, r3, r4, r5, r6⟩
  · exact .inl ⟨r2, r1⟩
  · exact .inr ⟨y, x, r2, r1, r3.symm, r4.symm, r5.symm, r6.symm⟩
theorem cfP_lt {x y : Pq} (h : (!(Go.Proofs.ltOf cfP) y x) = true) (hn : x ≠ y) : cfP x y < 0 := by
  have h1 : Go.Proofs.ltOf cfP y x = false := by simpa using h
  cases h2 : Go.Proofs.ltOf cfP x y with
  | true => simpa [Go.Proofs.ltOf] using h2
  | false => exact absurd (totP x y h2 h1) hn
theorem stoK_sorted {ks : List Pq} (hn : ks.Nodup) (I : Int → Int → Option It) (G : Int → Int → Int) (g : Int) : (stoK ks I G g).Pairwise (fun x y => cfP x y < 0) := by
  unfold Go.Proofs.YtpjmebaipnpegaaDoor.stoK
  refine List.Pairwise.filter _ ?_
  have h1 := srt_sorted ks
  have h2 : (srt ks).Pairwise (· ≠ ·) := (srt_perm ks).nodup_iff.2 hn
  exact (h1.and h2).imp fun h => cfP_lt h.1 h.2
theorem stoK_mem {ks : List Pq} {I : Int → Int → Option It} {G : Int → Int → Int} {g : Int} {x : Pq} (h : x ∈ stoK ks I G g) : x ∈ ks ∧ stK I G g x = true := by
  unfold Go.Proofs.YtpjmebaipnpegaaDoor.stoK at h
  have := List.mem_filter.1 h
  exact ⟨(srt_perm ks).mem_iff.1 this.1, this.2⟩
/-- What was saved comes back. -/
theorem load_saved {ks : List Pq} (hn : ks.Nodup) (hR : ∀ x ∈ ks, (0 ≤ x.i ∧ x.i < 65536) ∧ 0 ≤ x.s ∧ x.s < 256) {J I : Int → Int → Option It} (hJ : OkI J) (hS : SameI J I) (G : Int → Int → Int) (g : Int) :
    ∃ rs, rcs (savI ks J G g) ((savI ks J G g).length + 1) 0 [] = some rs ∧ (ldA G g (savI ks J G g) rs I).2 = (stoK ks J G g).length ∧ SameI J (ldA G g (savI ks J G g) rs I).1 ∧ savI ks (ldA G g (savI ks J G g) rs I).1 G g = savI ks J G g := by
  have hz : savI ks J G g = [] ++ byO (valI J) (stoK ks J G g) := rfl
  have hsv : ∀ x ∈ stoK ks J G g, SvOk (valI J) x := fun x hx => by
    have hk := stoK_mem hx
    have hr := hR x hk.1
    refine ⟨hr.1.1, hr.1.2, hr.2.1, hr.2.2, ?_⟩
    unfold valI
    cases hq : J x.i x.s with
    | none => simp
    | some y => have := chkN_len (hJ _ _ _ hq); simp only; omega
  have h1 := rcs_by (valI J) (stoK ks J G g) [] [] ((savI ks J G g).length + 1) hsv (stoK_sorted hn J G g) (fun r hr => by simp at hr) (by rw [hz]; simp)
  rw [← hz] at h1
  have hok : ∀ x ∈ stoK ks J G g, okL I G g x.i x.s (valI J x.i x.s) = true := fun x hx => by
    have hk := (stoK_mem hx).2
    rw [hS.okL]
    unfold okL
    unfold stK at hk
    cases hq : J x.i x.s with
    | none => rw [hq] at hk; cases hk
    | some y =>
      rw [hq] at hk
      simp only at hk ⊢
      rw [hk]
      unfold valI
      rw [hq]
      simp [hJ _ _ _ hq]
  have h2 := ld_by G g (valI J) I (stoK ks J G g) [] I 0 (SameI.refl I) hok
  rw [← hz] at h2
  refine ⟨_, h1, ?_, ?_, ?_⟩
  · show ((rcO (valI J) 0 (stoK ks J G g)).foldl _ (I, 0)).2 = _
    rw [show (rcO (valI J) 0 (stoK ks J G g)).foldl (ld1 G g (savI ks J G g)) (I, 0) = _ from h2]
    simp
  · show SameI J ((rcO (valI J) 0 (stoK ks J G g)).foldl (ld1 G g (savI ks J G g)) (I, 0)).1
    rw [show (rcO (valI J) 0 (stoK ks J G g)).foldl (ld1 G g (savI ks J G g)) (I, 0) = _ from h2]
    exact hS.puts _
  · show savI ks ((rcO (valI J) 0 (stoK ks J G g)).foldl (ld1 G g (savI ks J G g)) (I, 0)).1 G g = _
    rw [show (rcO (valI J) 0 (stoK ks J G g)).foldl (ld1 G g (savI ks J G g)) (I, 0) = _ from h2]
    have hst := (hS.puts ((stoK ks J G g).map fun x => (x.i, x.s, valI J x.i x.s))).stoK ks G g
    unfold savI
    rw [hst]
    have : ∀ l : List Pq, (∀ x ∈ l, x ∈ stoK ks J G g) → (l.flatMap fun x => recB x.i x.s (valI (putA I ((stoK ks J G g).map fun x => (x.i, x.s, valI J x.i x.s))) x.i x.s)) = l.flatMap fun x => recB x.i x.s (valI J x.i x.s) := fun l => by
      induction l with
      | nil => intro _; rfl
      | cons x l ih =>
        intro hl
        rw [List.flatMap_cons, List.flatMap_cons, ih fun y hy => hl y (List.mem_cons_of_mem _ hy)]
        congr 2
        have hx := hl x List.mem_cons_self
        have hk := (stoK_mem hx).2
        refine putA_val I x.i x.s _ ?_ _ I (SameI.refl I) (fun r hr e1 e2 => ?_) (.inr ⟨(x.i, x.s, valI J x.i x.s), List.mem_map.2 ⟨x, hx, rfl⟩, rfl, rfl⟩)
        · intro hnone
          rcases hS x.i x.s with ⟨q1, _⟩ | ⟨_, y, _, q2, _⟩
          · unfold stK at hk
            rw [q1] at hk
            cases hk
          · rw [q2] at hnone; cases hnone
        · obtain ⟨y, _, rfl⟩ := List.mem_map.1 hr
          dsimp only at e1 e2 ⊢
          rw [e1, e2]
    exact this _ fun x hx => hx
#print axioms load_saved
end Go.Proofs.YtpjmebaipnpegaaDoor
namespace Go.Proofs.YtpjmebaipnpegaaDoor
open Go.ChangeShapes Go.WideShapes Go.ChangeAt Go.RowKit

theorem cellsO : Tryd.prog.cellsOf 5 = 1 := by kernel_rfl
theorem cellsOs : Tryd.prog.cellsOf 34 = 1 := by kernel_rfl
theorem cellsOh : Tryd.prog.cellsOf 31 = 1 := by kernel_rfl
theorem wf_o {n : Int} (h : (Lit.int .u8 n).wf = true) : 0 ≤ n ∧ n < 256 := by
  simp [Lit.wf, IntKind.min, IntKind.max, IntKind.signed, IntKind.bits] at h
  omega
theorem wf_h {n : Int} (h : (Lit.int .u16 n).wf = true) : 0 ≤ n ∧ n < 65536 := by
  simp [Lit.wf, IntKind.min, IntKind.max, IntKind.signed, IntKind.bits] at h
  omega
theorem mem_wA {H : Type} {P : Program} {e : TypeId} : ∀ {l : List (DataW H)} {d : DataW H}, d ∈ l → ∀ n ∈ d.weights P e, n ∈ DataW.weightsAll P e l
  | d0 :: l, d, hd, n, hn => by
    simp only [DataW.weightsAll, List.mem_append]
    rcases List.mem_cons.1 hd with rfl | hd
    · exact .inl hn
    · exact .inr (mem_wA hd n hn)
theorem bytesO : Tryd.prog.bytesOf 5 = 1 := by kernel_rfl
/-- Bytes that came in. -/
theorem open_rowO {H : Type} {enc : TypeId × Value → H} {w : World} {base : Nat} {spare : Nat → Bool} {held : Bool} {fuel : Nat} {cs : List Value} {y : DataW H × List MemPlace}
    (h : DataW.trod enc Tryd.prog w base spare held fuel 34 cs = some y) (hw : ∀ n ∈ y.1.weights Tryd.prog 34, n ≤ reachBytes) : ∃ a zs cap, cs = [.slice a zs.length cap] ∧ Row w a zs.length zs ∧ zs.length ≤ cap ∧ cap ≤ maxLen ∧ zs.length ≤ 140737488355328 := by
  rcases open_ints Tryd.underlying34 Tryd.underlying5 cellsO h with ⟨rfl, _⟩ | ⟨x, l, c, zs, rfl, _, hl, hm, hz, rfl, hcell, hwz⟩
  · exact ⟨none, [], 0, rfl, row_nil w, Nat.le_refl _, by decide, by simp⟩
  · have hlz : l ≤ zs.length := by rw [hz]; split <;> omega
    have e : (zs.take l).length = l := by rw [List.length_take]; omega
    have hw2 := hw (((lits (H := H) .u8 (zs.take l)).length + (lits (H := H) .u8 (zs.drop l)).length) * Tryd.prog.bytesOf 5) (by simp [DataW.weights, Tryd.underlying34])
    have hl8 : (zs.take l).length ≤ 140737488355328 := by
      rw [bytesO] at hw2
      have := reachBytes_lt
      simp only [lits, List.length_map, Nat.mul_one] at hw2
      omega
    refine ⟨some x, zs.take l, c, by rw [e], ⟨rfl, fun n hn => wf_o (hwz n (List.mem_of_mem_take hn)), fun hp => ?_⟩, by omega, hm, hl8⟩
    rw [e] at hp
    obtain ⟨b, off, spot⟩ := x
    have h0 := hcell 0 (by omega)
    have hs : spot = none := by simpa [Addr.add] using World.cell?_spot h0
    subst hs
    refine ⟨b, off, rfl, fun i hi => ?_⟩
    rw [e] at hi
    have := hcell i (by omega)
    rw [show (⟨b, off, none⟩ : Addr).add i = ⟨b, off + i, none⟩ from by simp [Addr.add]] at this
    rw [this]
    simp [List.getD_eq_getElem?_getD, hi]
theorem cellsEn : Tryd.prog.cellsOf 44 = 10 := by kernel_rfl
theorem cellsSt : Tryd.prog.cellsOf 9 = 1 := by kernel_rfl
/-- An entry that came in: what is sure of it. -/
structure EmW (w : World) (e : Em) : Prop where
  rd : SlOk w e.d e.ld e.cd e.zd
  rl : SlOk w e.l e.ll e.cl e.zl
  rh : SlOk w e.h e.lh e.ch e.zh
  b1 : e.ld ≤ 140737488355328
  b2 : e.ll ≤ 140737488355328
  b3 : e.lh ≤ 140737488355328
  b4 : e.nm.size ≤ 140737488355328
  wi : 0 ≤ e.i ∧ e.i < 65536
  ws : 0 ≤ e.s ∧ e.s < 256
  wt : 0 ≤ e.t ∧ e.t < 256
  wr : 0 ≤ e.rt ∧ e.rt < 256
  wg : 0 ≤ e.gr ∧ e.gr < 256
theorem EmW.next {w w' : World} {e : Em} (h : EmW w e) (hb : Below w.heap.size w w') : EmW w' e := ⟨h.rd.next hb, h.rl.next hb, h.rh.next hb, h.b1, h.b2, h.b3, h.b4, h.wi, h.ws, h.wt, h.wr, h.wg⟩
structure IsEn (w : World) (a : Option Addr) (len : Nat) (es : List Em) : Prop where
  size : es.length = len
  ok : ∀ e ∈ es, EmW w e
  at_ : 0 < len → ∃ b off, a = some ⟨b, off, none⟩ ∧ ∀ (k : Nat) (e : Em), es[k]? = some e → EmAtO w b off k e
set_option maxRecDepth 100000 in
theorem open_en1 {H : Type} {enc : TypeId × Value → H} {w : World} {base : Nat} {spare : Nat → Bool} {held : Bool} {fuel : Nat} {cs : List Value} {y : DataW H × List MemPlace}
    (h : DataW.trod enc Tryd.prog w base spare held fuel 44 cs = some y) (hw : ∀ n ∈ y.1.weights Tryd.prog 44, n ≤ reachBytes) :
    ∃ x : Em, EmW w x ∧ cs = [Value.int .u16 x.i, .int .u8 x.s, .string x.nm, .int .u8 x.t, .int .u8 x.rt, .slice x.d x.ld x.cd, .slice x.l x.ll x.cl, .slice x.h x.lh x.ch, .int .u8 x.tg, .int .u8 x.gr] := by
  obtain ⟨xs, m, _, ey, hl, hlen, hf⟩ := DataW.trod_struct Tryd.underlying44 h
  rw [cellsEn] at hl
  have HW : Hid (∀ (t : TypeId) (j : Nat) (z : DataW H × List MemPlace), ([31, 5, 9, 5, 5, 34, 34, 34, 5, 5] : List TypeId)[j]? = some t → xs[j]? = some z → ∀ n ∈ z.1.weights Tryd.prog t, n ≤ reachBytes) := fun t j z ht hz n hn => hw n (by
    subst ey
    simp only [DataW.weights, Tryd.underlying44]
    exact DataW.weights_mem_each (j := j) (t := t) (d := z.1) ht (by rw [List.getElem?_map, hz]; rfl) n hn)
  clear hw ey
  match cs, hl with
  | [c0, c1, c2, c3, c4, c5, c6, c7, c8, c9], _ =>
    have f0 : DataW.trod enc Tryd.prog w base spare held m 31 (([c0, c1, c2, c3, c4, c5, c6, c7, c8, c9].drop 0).take (Tryd.prog.cellsOf 31)) = xs[0]? := hf 0 _ rfl
    have f1 : DataW.trod enc Tryd.prog w base spare held m 5 (([c0, c1, c2, c3, c4, c5, c6, c7, c8, c9].drop 1).take (Tryd.prog.cellsOf 5)) = xs[1]? := hf 1 _ rfl
    have f2 : DataW.trod enc Tryd.prog w base spare held m 9 (([c0, c1, c2, c3, c4, c5, c6, c7, c8, c9].drop 2).take (Tryd.prog.cellsOf 9)) = xs[2]? := hf 2 _ rfl
    have f3 : DataW.trod enc Tryd.prog w base spare held m 5 (([c0, c1, c2, c3, c4, c5, c6, c7, c8, c9].drop 3).take (Tryd.prog.cellsOf 5)) = xs[3]? := hf 3 _ rfl
    have f4 : DataW.trod enc Tryd.prog w base spare held m 5 (([c0, c1, c2, c3, c4, c5, c6, c7, c8, c9].drop 4).take (Tryd.prog.cellsOf 5)) = xs[4]? := hf 4 _ rfl
    have f5 : DataW.trod enc Tryd.prog w base spare held m 34 (([c0, c1, c2, c3, c4, c5, c6, c7, c8, c9].drop 5).take (Tryd.prog.cellsOf 34)) = xs[5]? := hf 5 _ rfl
    have f6 : DataW.trod enc Tryd.prog w base spare held m 34 (([c0, c1, c2, c3, c4, c5, c6, c7, c8, c9].drop 6).take (Tryd.prog.cellsOf 34)) = xs[6]? := hf 6 _ rfl
    have f7 : DataW.trod enc Tryd.prog w base spare held m 34 (([c0, c1, c2, c3, c4, c5, c6, c7, c8, c9].drop 7).take (Tryd.prog.cellsOf 34)) = xs[7]? := hf 7 _ rfl
    have f8 : DataW.trod enc Tryd.prog w base spare held m 5 (([c0, c1, c2, c3, c4, c5, c6, c7, c8, c9].drop 8).take (Tryd.prog.cellsOf 5)) = xs[8]? := hf 8 _ rfl
    have f9 : DataW.trod enc Tryd.prog w base spare held m 5 (([c0, c1, c2, c3, c4, c5, c6, c7, c8, c9].drop 9).take (Tryd.prog.cellsOf 5)) = xs[9]? := hf 9 _ rfl
    rw [cellsOh] at f0
    rw [cellsO] at f1 f3 f4 f8 f9
    rw [cellsSt] at f2
    rw [cellsOs] at f5 f6 f7
    match xs, hlen with
    | [y0, y1, y2, y3, y4, y5, y6, y7, y8, y9], _ =>
      obtain ⟨i, e0, _, g0⟩ := DataW.trod_int Tryd.underlying31 f0
      obtain ⟨s, e1, _, g1⟩ := DataW.trod_int Tryd.underlying5 f1
      obtain ⟨nm, e2, x2, _⟩ := DataW.trod_string Tryd.underlying9 f2
      obtain ⟨t, e3, _, g3⟩ := DataW.trod_int Tryd.underlying5 f3
      obtain ⟨rt, e4, _, g4⟩ := DataW.trod_int Tryd.underlying5 f4
      obtain ⟨d, zd, cd, e5, rd, pd, qd, od⟩ := open_rowO f5 (HW.out 34 5 y5 rfl rfl)
      obtain ⟨l, zl, cl, e6, rl, pl, ql, ol⟩ := open_rowO f6 (HW.out 34 6 y6 rfl rfl)
      obtain ⟨hh, zhh, chh, e7, rhh, phh, qhh, ohh⟩ := open_rowO f7 (HW.out 34 7 y7 rfl rfl)
      obtain ⟨tg, e8, _, g8⟩ := DataW.trod_int Tryd.underlying5 f8
      obtain ⟨gr, e9, _, g9⟩ := DataW.trod_int Tryd.underlying5 f9
      have hnm := HW.out 9 2 y2 rfl rfl
      rw [x2] at hnm
      have hn1 := hnm nm.data.toList.length (by simp [DataW.weights])
      have hn2 : nm.size ≤ 140737488355328 := by
        have := reachBytes_lt
        have e : nm.data.toList.length = nm.size := rfl
        omega
      simp at e0 e1 e2 e3 e4 e5 e6 e7 e8 e9
      subst e0 e1 e2 e3 e4 e5 e6 e7 e8 e9
      exact ⟨⟨i, s, nm, t, rt, d, zd.length, cd, l, zl.length, cl, hh, zhh.length, chh, tg, gr, zd, zl, zhh⟩, ⟨⟨rd, pd, qd⟩, ⟨rl, pl, ql⟩, ⟨rhh, phh, qhh⟩, od, ol, ohh, hn2, wf_h g0, wf_o g1, wf_o g3, wf_o g4, wf_o g9⟩, rfl⟩
set_option maxRecDepth 100000 in
theorem open_en {H : Type} {enc : TypeId × Value → H} {w : World} {base : Nat} {spare : Nat → Bool} {held : Bool} {fuel : Nat} {v : Value} {y : DataW H × List MemPlace}
    (h : DataW.trod enc Tryd.prog w base spare held fuel 22 [v] = some y) (hw : ∀ n ∈ y.1.weights Tryd.prog 22, n ≤ reachBytes) :
    ∃ a len cap l, v = .slice a len cap ∧ IsEn w a len l ∧ len ≤ cap ∧ cap ≤ maxLen := by
  rcases DataW.trod_slice Tryd.underlying22 h with ⟨h0, _⟩ | ⟨a, len, cap, elems, rest, n, _, h0, rfl, hb, hl, hm, hlen, hel, hsp, hns⟩
  · cases h0
    exact ⟨none, 0, 0, [], rfl, ⟨rfl, (fun x hx => by cases hx), fun hp => absurd hp (by decide)⟩, Nat.le_refl _, by decide⟩
  · cases h0
    rw [cellsEn] at hel
    have each : ∀ i : Nat, ∃ X : Em, i < len → EmW w X ∧ (∀ j v, [Value.int .u16 X.i, .int .u8 X.s, .string X.nm, .int .u8 X.t, .int .u8 X.rt, .slice X.d X.ld X.cd, .slice X.l X.ll X.cl, .slice X.h X.lh X.ch, .int .u8 X.tg, .int .u8 X.gr][j]? = some v → w.cell? ((a.add (i * 10)).add j) = some v) := fun i => by
      by_cases hi : i < len
      · have := hel i hi
        rw [List.getElem?_eq_getElem (by omega), Option.bind_eq_some_iff] at this
        obtain ⟨cs, hcs, ht⟩ := this
        obtain ⟨x, hx, rfl⟩ := open_en1 ht (fun n hn => hw n (by
          simp only [DataW.weights, Tryd.underlying22, List.mem_cons, List.mem_append]
          exact .inr (.inl (mem_wA (List.mem_map.2 ⟨_, List.getElem_mem _, rfl⟩) n hn))))
        refine ⟨x, fun _ => ⟨hx, fun j v hv => ?_⟩⟩
        have hj : j < 10 := (List.getElem?_eq_some_iff.1 hv).1
        rw [(World.cells?_some hcs).2.2 j hj]; exact hv
      · exact ⟨⟨0, 0, ⟨#[]⟩, 0, 0, none, 0, 0, none, 0, 0, none, 0, 0, 0, 0, [], [], []⟩, fun h => absurd h hi⟩
    obtain ⟨f, hf⟩ := Classical.axiomOfChoice each
    refine ⟨some a, len, cap, (List.range len).map f, rfl, ⟨by simp, fun x hx => ?_, fun hp => ?_⟩, hl, hm⟩
    · obtain ⟨i, hi, rfl⟩ := List.mem_map.1 hx
      exact (hf i (List.mem_range.1 hi)).1
    · obtain ⟨b, off, spot⟩ := a
      have h0 := (hf 0 hp).2 0 _ rfl
      have hs : spot = none := by simpa [Addr.add] using World.cell?_spot h0
      subst hs
      refine ⟨b, off, rfl, fun i x hx => ?_⟩
      obtain ⟨hi, rfl⟩ : i < len ∧ f i = x := by
        rw [List.getElem?_map] at hx
        by_cases hi : i < len
        · rw [List.getElem?_range hi] at hx
          exact ⟨hi, by simpa using hx⟩
        · rw [List.getElem?_eq_none (by simpa using hi)] at hx
          cases hx
      have hc := (hf i hi).2
      simp only [Addr.add_lit] at hc
      exact ⟨by simpa using hc 0 _ rfl, hc 1 _ rfl, hc 2 _ rfl, hc 3 _ rfl, hc 4 _ rfl, hc 5 _ rfl, hc 6 _ rfl, hc 7 _ rfl, hc 8 _ rfl, hc 9 _ rfl⟩
theorem cellsPl : Tryd.prog.cellsOf 33 = 2 := by kernel_rfl
theorem cellsIn : Tryd.prog.cellsOf 3 = 1 := by kernel_rfl
/-- Maps that came in. -/
structure IsMz (w : World) (a : Option Addr) (len : Nat) (ms : List Mz) : Prop where
  size : ms.length = len
  ok : ∀ x ∈ ms, 0 ≤ x.i ∧ x.i < 65536
  at_ : 0 < len → ∃ b off, a = some ⟨b, off, none⟩ ∧ MzAt w b off ms
theorem sized_of {H : Type} {P : Program} {ts us : List TypeId} {ds gs : List (DataW H)} (h : (DataW.weightsEach P (ts ++ us) (ds ++ gs)).all (· ≤ reachBytes) = true) (j : Nat) (t : TypeId) (d : DataW H) (ht : ts[j]? = some t) (hd : ds[j]? = some d) : ∀ n ∈ d.weights P t, n ≤ reachBytes := fun n hn => by
  have h1 : (ts ++ us)[j]? = some t := by rw [List.getElem?_append_left (List.getElem?_eq_some_iff.1 ht).1]; exact ht
  have h2 : (ds ++ gs)[j]? = some d := by rw [List.getElem?_append_left (List.getElem?_eq_some_iff.1 hd).1]; exact hd
  simpa using List.all_eq_true.1 h n (DataW.weights_mem_each h1 h2 n hn)
#print axioms open_en
end Go.Proofs.YtpjmebaipnpegaaDoor
namespace Go.Proofs.YtpjmebaipnpegaaDoor
open Go.ChangeShapes Go.WideShapes Go.ChangeAt Go.RowKit

/-- The places of entries. -/
def ksE (es : List Em) : List Pq := es.map fun e => ⟨e.i, e.s⟩
/-- Their groups. -/
def grE : List Em → Int → Int → Int
  | [], _, _ => 0
  | e :: r, i, s => if (i == e.i && s == e.s) = true then e.gr else grE r i s
theorem newG_nodup : ∀ (r a : List Em), newG a r = 0 → (∀ e ∈ r, ∀ x ∈ a, ¬ (e.i = x.i ∧ e.s = x.s)) ∧ (ksE r).Nodup
  | [], _, _ => ⟨fun e he => by simp at he, List.nodup_nil⟩
  | e :: r, a, h => by
    simp only [newG] at h
    split at h
    · exact absurd h (by decide)
    · split at h
      · exact absurd h (by decide)
      · rename_i _ hu
        have hno := any_no (by simpa using hu : (a.any fun x => e.i == x.i && e.s == x.s) = false)
        obtain ⟨i1, i2⟩ := newG_nodup r (a ++ [e]) h
        refine ⟨fun x hx y hy => ?_, ?_⟩
        · rcases List.mem_cons.1 hx with rfl | hx
          · exact hno y hy
          · exact i1 x hx y (List.mem_append_left _ hy)
        · unfold ksE
          rw [List.map_cons, List.nodup_cons]
          refine ⟨fun hm => ?_, i2⟩
          obtain ⟨x, hx, hq⟩ := List.mem_map.1 hm
          injection hq with q1 q2
          exact i1 x hx e (List.mem_append_right _ (by simp)) ⟨q1, q2⟩
theorem newC_nodup {es : List Em} (h : newC es = 0) : (ksE es).Nodup := by
  unfold newC at h
  split at h
  · exact absurd h (by decide)
  · exact (newG_nodup es [] h).2
theorem gr_rel (Q : Em → Value → Prop) : ∀ (es : List Em) (lst : Mp) (i s : Int) (u : Value), lst.length = es.length → (∀ (k : Nat) (e : Em), es[k]? = some e → ∃ v, lst[k]? = some (e.i, e.s, v) ∧ Q e v) → lookP lst i s = some u → ∃ e ∈ es, grE es i s = e.gr ∧ Q e u
  | [], lst, i, s, u, hl, _, h => by
    have : lst = [] := List.eq_nil_of_length_eq_zero hl
    subst this
    cases h
  | e :: es, [], i, s, u, hl, _, h => by cases h
  | e :: es, x :: lst, i, s, u, hl, hr, h => by
    obtain ⟨v, hx, hq⟩ := hr 0 e rfl
    simp at hx
    subst hx
    simp only [lookP] at h
    by_cases hc : (i == e.i && s == e.s) = true
    · rw [if_pos hc] at h
      cases h
      exact ⟨e, List.mem_cons_self, by simp only [grE]; rw [if_pos hc], hq⟩
    · rw [if_neg hc] at h
      obtain ⟨e', he, h1, h2⟩ := gr_rel Q es lst i s u (by simpa using hl) (fun k e' he' => hr (k + 1) e' he') h
      exact ⟨e', List.mem_cons_of_mem _ he, by simp only [grE]; rw [if_neg hc]; exact h1, h2⟩
theorem built_keys {W : World} {lo : Nat} {es : List Em} {lst : Mp} (h : Built W lo es lst) : keysOf lst = ksE es := by
  unfold keysOf ksE
  apply List.ext_getElem (by simp [h.1])
  intro k h1 h2
  simp at h1 h2
  obtain ⟨_, _, _, _, _, _, _, _, _, g, _⟩ := h.2 k es[k] (List.getElem?_eq_getElem h2)
  rw [List.getElem?_eq_getElem h1] at g
  simp only [List.getElem_map]
  rw [Option.some.inj g]
theorem dk_new {w W : World} {p m lo : Nat} {es : List Em} {lst : Mp} (hp : W.heap[p]? = some (.cells #[.map (some m), .int .i64 0] 50 (0, 0))) (hm : IsM W m lst) (h : Built W lo es lst) (hc : newC es = 0) (hin : ∀ e ∈ es, EmIn w e) (hT : Ty.Tab64 W) : Dk W p m 0 (ksE es) (itE es) (grE es) := by
  refine ⟨lst, hp, hm, built_dic h hc hin, by rw [built_keys h], fun i s u hu => ?_, hT⟩
  obtain ⟨e, _, h1, h2⟩ := gr_rel (fun e u => itG u = e.gr) es lst i s u h.1 (fun k e he => by
    obtain ⟨a1, c1, a2, c2, a3, c3, v, lv, cv, g, _⟩ := h.2 k e he
    exact ⟨_, g, rfl⟩) hu
  rw [h1]
  exact h2
theorem okI_new {es : List Em} (hc : newC es = 0) : OkI (itE es) := fun _ _ _ h => itE_may hc h
theorem itE_at : ∀ (es : List Em), (ksE es).Nodup → ∀ e ∈ es, itE es e.i e.s = some ⟨e.t, e.rt, e.tg, e.zl, e.zh, firstL e.t e.zd⟩ ∧ grE es e.i e.s = e.gr
  | [], _, e, he => by simp at he
  | x :: es, hn, e, he => by
    unfold ksE at hn
    rw [List.map_cons, List.nodup_cons] at hn
    simp only [itE, grE]
    rcases List.mem_cons.1 he with rfl | he
    · rw [if_pos (by simp), if_pos (by simp)]
      exact ⟨rfl, rfl⟩
    · have hne : ¬ (e.i == x.i && e.s == x.s) = true := fun h => by
        obtain ⟨q1, q2⟩ : e.i = x.i ∧ e.s = x.s := by simpa using h
        refine hn.1 ?_
        rw [← q1, ← q2]
        exact List.mem_map.2 ⟨e, he, rfl⟩
      rw [if_neg hne, if_neg hne]
      exact itE_at es hn.2 e he
/-- How many are stored with a group. -/
def cntE (es : List Em) (g : Int) : Nat := (es.filter fun e => stI e.rt e.gr g).length
theorem stoK_cnt {es : List Em} (hn : (ksE es).Nodup) {J : Int → Int → Option It} (hS : SameI (itE es) J) (g : Int) : (stoK (ksE es) J (grE es) g).length = cntE es g := by
  rw [hS.stoK]
  unfold stoK cntE
  rw [((srt_perm (ksE es)).filter _).length_eq]
  unfold ksE
  rw [List.filter_map, List.length_map]
  congr 1
  refine List.filter_congr fun e he => ?_
  obtain ⟨h1, h2⟩ := itE_at es hn e he
  show stK (itE es) (grE es) g ⟨e.i, e.s⟩ = _
  unfold stK
  dsimp only
  rw [h1, h2]
theorem cntE_take (es : List Em) (g : Int) (k : Nat) (e : Em) (h : es[k]? = some e) : cntE (es.take (k + 1)) g = cntE (es.take k) g + (if stI e.rt e.gr g = true then 1 else 0) := by
  obtain ⟨hk, he⟩ := List.getElem?_eq_some_iff.1 h
  unfold cntE
  rw [List.take_succ_eq_append_getElem hk, List.filter_append, List.length_append, he]
  congr 1
  by_cases hs : stI e.rt e.gr g = true
  · simp [hs]
  · simp [hs]
/-- A step that came in. -/
structure Sp where
  kd : Int
  i : Int
  s : Int
  a : Option Addr
  n : Nat
  c : Nat
  z : List Int
  g : Int
abbrev Sp.A (x : Sp) : Array Value := #[.int .i64 x.kd, .int .u16 x.i, .int .u8 x.s, .slice x.a x.n x.c, .int .u8 x.g]
def SpAt (W : World) (g off : Nat) (vs : List Sp) : Prop := ∀ (k : Nat) (x : Sp), vs[k]? = some x → W.cell? ⟨g, off + k * 5, none⟩ = some (.int .i64 x.kd) ∧ W.cell? ⟨g, off + k * 5 + 1, none⟩ = some (.int .u16 x.i) ∧ W.cell? ⟨g, off + k * 5 + 2, none⟩ = some (.int .u8 x.s) ∧ W.cell? ⟨g, off + k * 5 + 3, none⟩ = some (.slice x.a x.n x.c) ∧ W.cell? ⟨g, off + k * 5 + 4, none⟩ = some (.int .u8 x.g)
structure IsSp (w : World) (a : Option Addr) (len : Nat) (vs : List Sp) : Prop where
  size : vs.length = len
  ok : ∀ x ∈ vs, SlOk w x.a x.n x.c x.z ∧ x.n ≤ 140737488355328
  at_ : 0 < len → ∃ b off, a = some ⟨b, off, none⟩ ∧ SpAt w b off vs
theorem cellsSp : Tryd.prog.cellsOf 36 = 5 := by kernel_rfl
theorem cellsPl8 : Tryd.prog.cellsOf 33 = 2 := by kernel_rfl
theorem cellsIn8 : Tryd.prog.cellsOf 3 = 1 := by kernel_rfl
set_option maxRecDepth 100000 in
theorem open_sp1 {H : Type} {enc : TypeId × Value → H} {w : World} {base : Nat} {spare : Nat → Bool} {held : Bool} {fuel : Nat} {cs : List Value} {y : DataW H × List MemPlace}
    (h : DataW.trod enc Tryd.prog w base spare held fuel 36 cs = some y) (hw : ∀ n ∈ y.1.weights Tryd.prog 36, n ≤ reachBytes) : ∃ x : Sp, (SlOk w x.a x.n x.c x.z ∧ x.n ≤ 140737488355328) ∧ cs = [.int .i64 x.kd, .int .u16 x.i, .int .u8 x.s, .slice x.a x.n x.c, .int .u8 x.g] := by
  obtain ⟨xs, m, _, ey, hl, hlen, hf⟩ := DataW.trod_struct Tryd.underlying36 h
  rw [cellsSp] at hl
  have HW : Hid (∀ (t : TypeId) (j : Nat) (z : DataW H × List MemPlace), ([3, 33, 34, 5] : List TypeId)[j]? = some t → xs[j]? = some z → ∀ n ∈ z.1.weights Tryd.prog t, n ≤ reachBytes) := fun t j z ht hz n hn => hw n (by
    subst ey
    simp only [DataW.weights, Tryd.underlying36]
    exact DataW.weights_mem_each (j := j) (t := t) (d := z.1) ht (by rw [List.getElem?_map, hz]; rfl) n hn)
  clear hw ey
  match cs, hl with
  | [c0, c1, c2, c3, c4], _ =>
    have f0 : DataW.trod enc Tryd.prog w base spare held m 3 (([c0, c1, c2, c3, c4].drop 0).take (Tryd.prog.cellsOf 3)) = xs[0]? := hf 0 _ rfl
    have f1 : DataW.trod enc Tryd.prog w base spare held m 33 (([c0, c1, c2, c3, c4].drop 1).take (Tryd.prog.cellsOf 33)) = xs[1]? := hf 1 _ rfl
    have f2 : DataW.trod enc Tryd.prog w base spare held m 34 (([c0, c1, c2, c3, c4].drop 3).take (Tryd.prog.cellsOf 34)) = xs[2]? := hf 2 _ rfl
    have f3 : DataW.trod enc Tryd.prog w base spare held m 5 (([c0, c1, c2, c3, c4].drop 4).take (Tryd.prog.cellsOf 5)) = xs[3]? := hf 3 _ rfl
    rw [cellsIn8] at f0
    rw [cellsPl8] at f1
    rw [cellsOs] at f2
    rw [cellsO] at f3
    match xs, hlen with
    | [y0, y1, y2, y3], _ =>
      obtain ⟨kd, d0, _, _⟩ := DataW.trod_int Tryd.underlying3 f0
      obtain ⟨a, za, ca, d2, ra, pa, qa, oa⟩ := open_rowO f2 (HW.out 34 2 y2 rfl rfl)
      obtain ⟨gg, d3, _, _⟩ := DataW.trod_int Tryd.underlying5 f3
      obtain ⟨zs, m2, _, _, hl2, hlen2, hf2⟩ := DataW.trod_struct Tryd.underlying33 f1
      have g0 : DataW.trod enc Tryd.prog w base spare held m2 31 (([c1, c2].drop 0).take (Tryd.prog.cellsOf 31)) = zs[0]? := hf2 0 _ rfl
      have g1 : DataW.trod enc Tryd.prog w base spare held m2 5 (([c1, c2].drop 1).take (Tryd.prog.cellsOf 5)) = zs[1]? := hf2 1 _ rfl
      rw [cellsOh] at g0
      rw [cellsO] at g1
      match zs, hlen2 with
      | [z0, z1], _ =>
        obtain ⟨i, e0, _, k0⟩ := DataW.trod_int Tryd.underlying31 g0
        obtain ⟨s, e1, _, _⟩ := DataW.trod_int Tryd.underlying5 g1
        simp at d0 e0 e1 d2 d3
        subst d0 e0 e1 d2 d3
        exact ⟨⟨kd, i, s, a, za.length, ca, za, gg⟩, ⟨⟨ra, pa, qa⟩, oa⟩, rfl⟩
theorem open_sp {H : Type} {enc : TypeId × Value → H} {w : World} {base : Nat} {spare : Nat → Bool} {held : Bool} {fuel : Nat} {v : Value} {y : DataW H × List MemPlace}
    (h : DataW.trod enc Tryd.prog w base spare held fuel 23 [v] = some y) (hw : ∀ n ∈ y.1.weights Tryd.prog 23, n ≤ reachBytes) :
    ∃ a len cap l, v = .slice a len cap ∧ IsSp w a len l ∧ len ≤ cap ∧ cap ≤ maxLen := by
  rcases DataW.trod_slice Tryd.underlying23 h with ⟨h0, _⟩ | ⟨a, len, cap, elems, rest, n, _, h0, rfl, hb, hl, hm, hlen, hel, hsp, hns⟩
  · cases h0
    exact ⟨none, 0, 0, [], rfl, ⟨rfl, (fun x hx => by cases hx), fun hp => absurd hp (by decide)⟩, Nat.le_refl _, by decide⟩
  · cases h0
    rw [cellsSp] at hel
    have each : ∀ i : Nat, ∃ X : Sp, i < len → (SlOk w X.a X.n X.c X.z ∧ X.n ≤ 140737488355328) ∧ (∀ j v, [Value.int .i64 X.kd, .int .u16 X.i, .int .u8 X.s, .slice X.a X.n X.c, .int .u8 X.g][j]? = some v → w.cell? ((a.add (i * 5)).add j) = some v) := fun i => by
      by_cases hi : i < len
      · have := hel i hi
        rw [List.getElem?_eq_getElem (by omega), Option.bind_eq_some_iff] at this
        obtain ⟨cs, hcs, ht⟩ := this
        obtain ⟨x, hx, rfl⟩ := open_sp1 ht (fun n hn => hw n (by
          simp only [DataW.weights, Tryd.underlying23, List.mem_cons, List.mem_append]
          exact .inr (.inl (mem_wA (List.mem_map.2 ⟨_, List.getElem_mem _, rfl⟩) n hn))))
        refine ⟨x, fun _ => ⟨hx, fun j v hv => ?_⟩⟩
        have hj : j < 5 := (List.getElem?_eq_some_iff.1 hv).1
        rw [(World.cells?_some hcs).2.2 j hj]; exact hv
      · exact ⟨⟨0, 0, 0, none, 0, 0, [], 0⟩, fun h => absurd h hi⟩
    obtain ⟨f, hf⟩ := Classical.axiomOfChoice each
    refine ⟨some a, len, cap, (List.range len).map f, rfl, ⟨by simp, fun x hx => ?_, fun hp => ?_⟩, hl, hm⟩
    · obtain ⟨i, hi, rfl⟩ := List.mem_map.1 hx
      exact (hf i (List.mem_range.1 hi)).1
    · obtain ⟨b, off, spot⟩ := a
      have h0 := (hf 0 hp).2 0 _ rfl
      have hs : spot = none := by simpa [Addr.add] using World.cell?_spot h0
      subst hs
      refine ⟨b, off, rfl, fun i x hx => ?_⟩
      obtain ⟨hi, rfl⟩ : i < len ∧ f i = x := by
        rw [List.getElem?_map] at hx
        by_cases hi : i < len
        · rw [List.getElem?_range hi] at hx
          exact ⟨hi, by simpa using hx⟩
        · rw [List.getElem?_eq_none (by simpa using hi)] at hx
          cases hx
      have hc := (hf i hi).2
      simp only [Addr.add_lit] at hc
      exact ⟨by simpa using hc 0 _ rfl, hc 1 _ rfl, hc 2 _ rfl, hc 3 _ rfl, hc 4 _ rfl⟩
#print axioms stoK_cnt
#print axioms open_sp
end Go.Proofs.YtpjmebaipnpegaaDoor
namespace Go.Proofs.YtpjmebaipnpegaaDoor
open Go.RowKit

def Few8 (es : List Em) (k n : Nat) : Prop := ∀ (j : Nat) (e : Em), j < k → es[j]? = some e → e.ld ≤ n ∧ e.ll ≤ n ∧ e.lh ≤ n
theorem Few8.step {es : List Em} {k n : Nat} {e : Em} (h : Few8 es k n) (he : es[k]? = some e) (m : Nat) (hm : n + e.ld + e.ll + e.lh ≤ m) : Few8 es (k + 1) m := fun j x hj hx => by
  by_cases hjk : j = k
  · subst hjk
    rw [he] at hx
    cases hx
    omega
  · have := h j x (by omega) hx
    omega
def FewS (vs : List Sp) (k n : Nat) : Prop := ∀ (j : Nat) (x : Sp), j < k → vs[j]? = some x → x.n ≤ n
theorem FewS.step {vs : List Sp} {k n : Nat} {x : Sp} (h : FewS vs k n) (he : vs[k]? = some x) (m : Nat) (hm : n + x.n ≤ m) : FewS vs (k + 1) m := fun j y hj hy => by
  by_cases hjk : j = k
  · subst hjk
    rw [he] at hy
    cases hy
    omega
  · have := h j y (by omega) hy
    omega

/-- What few answers. -/
def FewPost (es : List Em) (len0 : Nat) (vs : List Sp) (len1 : Nat) (w : World) (e : Ending) (w' : World) : Prop := ∃ b : Bool, e = .returned (.bool b) ∧ (b = true → len0 ≤ 40 → (∀ e ∈ es, e.ld ≤ 2000 ∧ e.ll ≤ 2000 ∧ e.lh ≤ 2000) ∧ len1 ≤ 60 ∧ ∀ x ∈ vs, x.n ≤ 8000) ∧ Below w.heap.size w w'

set_option linter.unusedSimpArgs false in
set_option maxHeartbeats 4000000 in
set_option maxRecDepth 100000 in
theorem size8 {w : World} {a : Option Addr} {len : Nat} {es : List Em} (h : IsEn w a len es) (cap : Nat) (hlm : len ≤ maxLen) :
    Calls Tryd.prog 12 #[.slice a len cap] w fun e w' => ∃ n : Nat, e = .returned (.int .i64 (n : Int)) ∧ n ≤ 41 * 600000000000000 ∧ (n ≤ 2000 → len ≤ 40 → ∀ e ∈ es, e.ld ≤ 2000 ∧ e.ll ≤ 2000 ∧ e.lh ≤ 2000) ∧ Below w.heap.size w w' := by
  have HH : Hid (IsEn w a len es) := h
  have hlm' : len ≤ 9223372036854775807 := hlm
  clear h
  go_enter Tryd.func12, Tryd.ntmps12
  go_wp2_with fail
  go_loopw [3, 4] (fun nv iv wr => ∃ k n : Nat, k ≤ len ∧ k ≤ 41 ∧ iv = .int .i64 (k : Int) ∧ nv = .int .i64 (n : Int) ∧ n ≤ k * 600000000000000 ∧ Hid (Few8 es k n ∧ Below w.heap.size w wr)) (fun _ iv _ => len - (intOf iv).toNat)
  case atStart => exact ⟨0, 0, Nat.zero_le _, by decide, rfl, rfl, by decide, (show _ ∧ _ from ⟨fun j e hj => by omega, Below.refl _ _⟩)⟩
  case round =>
    obtain ⟨k, n, hk, hk41, rfl, rfl, hn, HR⟩ := hrel
    have hsz := HH.out.size
    by_cases hkl : k < len
    · have gk : (k : Int) < (len : Int) := by omega
      have gk0 : (0 : Int) ≤ (k : Int) := by omega
      by_cases hn5 : k ≤ 40
      · have gn : (k : Int) ≤ 40 := by omega
        obtain ⟨b, off, rfl, hat⟩ := HH.out.at_ (by omega)
        obtain ⟨e, he⟩ : ∃ e, es[k]? = some e := ⟨_, List.getElem?_eq_getElem (by omega)⟩
        have hw := HH.out.ok e (List.mem_of_getElem? he)
        have o1 := hw.b1
        have o2 := hw.b2
        have o3 := hw.b3
        have o4 := hw.b4
        obtain ⟨_, _, m2, _, _, m5, m6, m7, _, _⟩ := hat k e he
        have c2 := (HR.out.2.cell (block_lt_of_cell m2)).trans m2
        have c5 := (HR.out.2.cell (block_lt_of_cell m5)).trans m5
        have c6 := (HR.out.2.cell (block_lt_of_cell m6)).trans m6
        have c7 := (HR.out.2.cell (block_lt_of_cell m7)).trans m7
        have FS : Hid (Few8 es (k + 1) (n + e.nm.size + e.ld + e.ll + e.lh)) := HR.out.1.step he _ (by omega)
        have BR : Hid (Below w.heap.size w wr) := HR.out.2
        clear hat hw m2 m5 m6 m7 he HR
        have a2 : IntKind.i64.wrap ((n : Int) + (e.nm.size : Int)) = ((n + e.nm.size : Nat) : Int) := by rw [IntKind.wrap_i64]; omega
        have a3 : IntKind.i64.wrap (((n + e.nm.size : Nat) : Int) + (e.ld : Int)) = ((n + e.nm.size + e.ld : Nat) : Int) := by rw [IntKind.wrap_i64]; omega
        have a4 : IntKind.i64.wrap (((n + e.nm.size + e.ld : Nat) : Int) + (e.ll : Int)) = ((n + e.nm.size + e.ld + e.ll : Nat) : Int) := by rw [IntKind.wrap_i64]; omega
        have a5 : IntKind.i64.wrap (((n + e.nm.size + e.ld + e.ll : Nat) : Int) + (e.lh : Int)) = ((n + e.nm.size + e.ld + e.ll + e.lh : Nat) : Int) := by rw [IntKind.wrap_i64]; omega
        have a6 : IntKind.i64.wrap ((k : Int) + 1) = ((k + 1 : Nat) : Int) := by rw [IntKind.wrap_i64]; omega
        go_wp2_with fail
        go_quiet (fail)
        go_wp2_with fail
        exact ⟨⟨k + 1, n + e.nm.size + e.ld + e.ll + e.lh, by omega, by omega, by go_num, by go_num, by omega, (show _ ∧ _ from ⟨FS.out, ⟨BR.out.os, BR.out.tape, BR.out.output, BR.out.size, BR.out.block⟩⟩)⟩, by simp [intOf]; omega⟩
      · have gn : ¬ ((k : Int) ≤ 40) := by omega
        go_wp2_with fail
        go_ret
        exact ⟨n, rfl, by omega, fun _ h => by omega, HR.out.2⟩
    · have gk : ¬ ((k : Int) < (len : Int)) := by omega
      go_wp2_with fail
      go_ret
      refine ⟨n, rfl, by omega, fun h5 _ e he => ?_, HR.out.2⟩
      obtain ⟨j, hj, hq⟩ := List.getElem_of_mem he
      have := HR.out.1 j e (by omega) (by rw [List.getElem?_eq_getElem hj, hq])
      omega
set_option linter.unusedSimpArgs false in
set_option maxHeartbeats 4000000 in
set_option maxRecDepth 100000 in
theorem few8 {w : World} {a0 : Option Addr} {len0 : Nat} {es : List Em} (h0 : IsEn w a0 len0 es) (cap0 : Nat) (hlm : len0 ≤ maxLen) {a1 : Option Addr} {len1 : Nat} {vs : List Sp} (h1 : IsSp w a1 len1 vs) (cap1 : Nat) (hlm1 : len1 ≤ maxLen) :
    Calls Tryd.prog 4 #[.slice a0 len0 cap0, .slice a1 len1 cap1] w (FewPost es len0 vs len1 w) := by
  have H0 : Hid (IsEn w a0 len0 es) := h0
  have H1 : Hid (IsSp w a1 len1 vs) := h1
  have HS : Hid (∀ W, Below w.heap.size w W → Calls Tryd.prog 12 #[.slice a0 len0 cap0] W fun e w' => ∃ n : Nat, e = .returned (.int .i64 (n : Int)) ∧ n ≤ 41 * 600000000000000 ∧ (n ≤ 2000 → len0 ≤ 40 → ∀ e ∈ es, e.ld ≤ 2000 ∧ e.ll ≤ 2000 ∧ e.lh ≤ 2000) ∧ Below W.heap.size W w') := fun W hW => size8 ⟨h0.size, fun e he => (h0.ok e he).next hW, fun hp => by
    obtain ⟨b, off, e, hc⟩ := h0.at_ hp
    refine ⟨b, off, e, fun k x hx => ?_⟩
    obtain ⟨m0, m1, m2, m3, m4, m5, m6, m7, m8, m9⟩ := hc k x hx
    exact ⟨(hW.cell (block_lt_of_cell m0)).trans m0, (hW.cell (block_lt_of_cell m1)).trans m1, (hW.cell (block_lt_of_cell m2)).trans m2, (hW.cell (block_lt_of_cell m3)).trans m3, (hW.cell (block_lt_of_cell m4)).trans m4, (hW.cell (block_lt_of_cell m5)).trans m5, (hW.cell (block_lt_of_cell m6)).trans m6, (hW.cell (block_lt_of_cell m7)).trans m7, (hW.cell (block_lt_of_cell m8)).trans m8, (hW.cell (block_lt_of_cell m9)).trans m9⟩⟩ cap0 hlm
  have hlm' : len1 ≤ 9223372036854775807 := hlm1
  clear h0 h1
  go_enter Tryd.func4, Tryd.ntmps4
  go_wp2_with fail
  go_loopw [5, 6] (fun nv iv wr => ∃ k n : Nat, k ≤ len1 ∧ k ≤ 61 ∧ iv = .int .i64 (k : Int) ∧ nv = .int .i64 (n : Int) ∧ n ≤ k * 150000000000000 ∧ Hid (FewS vs k n ∧ Below w.heap.size w wr)) (fun _ iv _ => len1 - (intOf iv).toNat)
  case atStart => exact ⟨0, 0, Nat.zero_le _, by decide, rfl, rfl, by decide, (show _ ∧ _ from ⟨fun j e hj => by omega, Below.refl _ _⟩)⟩
  case round =>
    obtain ⟨k, n, hk, hk61, rfl, rfl, hn, HR⟩ := hrel
    have hsz := H1.out.size
    have BR : Hid (Below w.heap.size w wr) := HR.out.2
    have FS0 : Hid (FewS vs k n) := HR.out.1
    clear HR
    by_cases hgo : k < len1 ∧ k ≤ 60
    · obtain ⟨hkl, hk60⟩ := hgo
      have gk : (k : Int) < (len1 : Int) := by omega
      have gk0 : (0 : Int) ≤ (k : Int) := by omega
      have gn : (k : Int) ≤ 60 := by omega
      obtain ⟨b, off, rfl, hat⟩ := H1.out.at_ (by omega)
      obtain ⟨x, hx⟩ : ∃ x, vs[k]? = some x := ⟨_, List.getElem?_eq_getElem (by omega)⟩
      have hw := (H1.out.ok x (List.mem_of_getElem? hx)).2
      obtain ⟨_, _, _, m3, _⟩ := hat k x hx
      have c3 := (BR.out.cell (block_lt_of_cell m3)).trans m3
      have FS : Hid (FewS vs (k + 1) (n + x.n)) := FS0.out.step hx _ (by omega)
      have a2 : IntKind.i64.wrap ((n : Int) + (x.n : Int)) = ((n + x.n : Nat) : Int) := by rw [IntKind.wrap_i64]; omega
      have a6 : IntKind.i64.wrap ((k : Int) + 1) = ((k + 1 : Nat) : Int) := by rw [IntKind.wrap_i64]; omega
      clear hat m3 hx FS0
      go_wp2_with fail
      exact ⟨⟨k + 1, n + x.n, by omega, by omega, by go_num, by go_num, by omega, (show _ ∧ _ from ⟨FS.out, BR.out⟩)⟩, by simp [intOf]; omega⟩
    have ALL : Hid (len1 ≤ 60 → n ≤ 8000 → ∀ x ∈ vs, x.n ≤ 8000) := fun h1 h2 x hx => by
      obtain ⟨j, hj, hq⟩ := List.getElem_of_mem hx
      have := FS0.out j x (by omega) (by rw [List.getElem?_eq_getElem hj, hq])
      omega
    clear FS0
    by_cases hkl : k < len1
    · have gk : (k : Int) < (len1 : Int) := by omega
      have gn : ¬ ((k : Int) ≤ 60) := by omega
      by_cases h40 : len0 ≤ 40
      case neg =>
        have g40 : ¬ ((len0 : Int) ≤ 40) := by omega
        by_cases hK : 1024 < len0
        case neg =>
          have gK : ¬ ((1024 : Int) < (len0 : Int)) := by omega
          go_wp2_with fail
          go_ret
          exact ⟨false, rfl, (fun h => by cases h), BR.out⟩
        have gK : (1024 : Int) < (len0 : Int) := by omega
        go_wp2_with fail
        refine (HS.out _ BR.out).mono ?_
        rintro e w1 ⟨sz, rfl, hsz1, hf, hb⟩
        have B1 : Hid (Below w.heap.size w w1) := Below.andThen BR.out hb
        have HF : Hid (sz ≤ 2000 → len0 ≤ 40 → ∀ e ∈ es, e.ld ≤ 2000 ∧ e.ll ≤ 2000 ∧ e.lh ≤ 2000) := hf
        clear hf hb
        by_cases h2 : sz ≤ 2000
        case neg =>
          have g2 : ¬ ((sz : Int) ≤ 2000) := by omega
          go_wp2_with fail
          go_ret
          exact ⟨false, rfl, (fun h => by cases h), B1.out⟩
        have g2 : (sz : Int) ≤ 2000 := by omega
        by_cases h6 : len1 ≤ 60
        case neg =>
          have g6 : ¬ ((len1 : Int) ≤ 60) := by omega
          go_wp2_with fail
          go_ret
          exact ⟨false, rfl, (fun h => by cases h), B1.out⟩
        have g6 : (len1 : Int) ≤ 60 := by omega
        by_cases h8 : n ≤ 8000
        case neg =>
          have g8 : ¬ ((n : Int) ≤ 8000) := by omega
          go_wp2_with fail
          go_ret
          exact ⟨decide ((n : Int) ≤ 8000), rfl, (fun h => absurd (of_decide_eq_true h) (by omega)), B1.out⟩
        have g8 : (n : Int) ≤ 8000 := by omega
        go_wp2_with fail
        go_ret
        exact ⟨true, rfl, fun _ h => ⟨HF.out h2 h, h6, ALL.out h6 h8⟩, B1.out⟩
      have g40 : (len0 : Int) ≤ 40 := by omega
      go_wp2_with fail
      refine (HS.out _ BR.out).mono ?_
      rintro e w1 ⟨sz, rfl, hsz1, hf, hb⟩
      have B1 : Hid (Below w.heap.size w w1) := Below.andThen BR.out hb
      have HF : Hid (sz ≤ 2000 → len0 ≤ 40 → ∀ e ∈ es, e.ld ≤ 2000 ∧ e.ll ≤ 2000 ∧ e.lh ≤ 2000) := hf
      clear hf hb
      by_cases h2 : sz ≤ 2000
      case neg =>
        have g2 : ¬ ((sz : Int) ≤ 2000) := by omega
        go_wp2_with fail
        go_ret
        exact ⟨false, rfl, (fun h => by cases h), B1.out⟩
      have g2 : (sz : Int) ≤ 2000 := by omega
      by_cases h6 : len1 ≤ 60
      case neg =>
        have g6 : ¬ ((len1 : Int) ≤ 60) := by omega
        go_wp2_with fail
        go_ret
        exact ⟨false, rfl, (fun h => by cases h), B1.out⟩
      have g6 : (len1 : Int) ≤ 60 := by omega
      by_cases h8 : n ≤ 8000
      case neg =>
        have g8 : ¬ ((n : Int) ≤ 8000) := by omega
        go_wp2_with fail
        go_ret
        exact ⟨decide ((n : Int) ≤ 8000), rfl, (fun h => absurd (of_decide_eq_true h) (by omega)), B1.out⟩
      have g8 : (n : Int) ≤ 8000 := by omega
      go_wp2_with fail
      go_ret
      exact ⟨true, rfl, fun _ h => ⟨HF.out h2 h, h6, ALL.out h6 h8⟩, B1.out⟩
    have gk : ¬ ((k : Int) < (len1 : Int)) := by omega
    by_cases h40 : len0 ≤ 40
    case neg =>
      have g40 : ¬ ((len0 : Int) ≤ 40) := by omega
      by_cases hK : 1024 < len0
      case neg =>
        have gK : ¬ ((1024 : Int) < (len0 : Int)) := by omega
        go_wp2_with fail
        go_ret
        exact ⟨false, rfl, (fun h => by cases h), BR.out⟩
      have gK : (1024 : Int) < (len0 : Int) := by omega
      go_wp2_with fail
      refine (HS.out _ BR.out).mono ?_
      rintro e w1 ⟨sz, rfl, hsz1, hf, hb⟩
      have B1 : Hid (Below w.heap.size w w1) := Below.andThen BR.out hb
      have HF : Hid (sz ≤ 2000 → len0 ≤ 40 → ∀ e ∈ es, e.ld ≤ 2000 ∧ e.ll ≤ 2000 ∧ e.lh ≤ 2000) := hf
      clear hf hb
      by_cases h2 : sz ≤ 2000
      case neg =>
        have g2 : ¬ ((sz : Int) ≤ 2000) := by omega
        go_wp2_with fail
        go_ret
        exact ⟨false, rfl, (fun h => by cases h), B1.out⟩
      have g2 : (sz : Int) ≤ 2000 := by omega
      by_cases h6 : len1 ≤ 60
      case neg =>
        have g6 : ¬ ((len1 : Int) ≤ 60) := by omega
        go_wp2_with fail
        go_ret
        exact ⟨false, rfl, (fun h => by cases h), B1.out⟩
      have g6 : (len1 : Int) ≤ 60 := by omega
      by_cases h8 : n ≤ 8000
      case neg =>
        have g8 : ¬ ((n : Int) ≤ 8000) := by omega
        go_wp2_with fail
        go_ret
        exact ⟨decide ((n : Int) ≤ 8000), rfl, (fun h => absurd (of_decide_eq_true h) (by omega)), B1.out⟩
      have g8 : (n : Int) ≤ 8000 := by omega
      go_wp2_with fail
      go_ret
      exact ⟨true, rfl, fun _ h => ⟨HF.out h2 h, h6, ALL.out h6 h8⟩, B1.out⟩
    have g40 : (len0 : Int) ≤ 40 := by omega
    go_wp2_with fail
    refine (HS.out _ BR.out).mono ?_
    rintro e w1 ⟨sz, rfl, hsz1, hf, hb⟩
    have B1 : Hid (Below w.heap.size w w1) := Below.andThen BR.out hb
    have HF : Hid (sz ≤ 2000 → len0 ≤ 40 → ∀ e ∈ es, e.ld ≤ 2000 ∧ e.ll ≤ 2000 ∧ e.lh ≤ 2000) := hf
    clear hf hb
    by_cases h2 : sz ≤ 2000
    case neg =>
      have g2 : ¬ ((sz : Int) ≤ 2000) := by omega
      go_wp2_with fail
      go_ret
      exact ⟨false, rfl, (fun h => by cases h), B1.out⟩
    have g2 : (sz : Int) ≤ 2000 := by omega
    by_cases h6 : len1 ≤ 60
    case neg =>
      have g6 : ¬ ((len1 : Int) ≤ 60) := by omega
      go_wp2_with fail
      go_ret
      exact ⟨false, rfl, (fun h => by cases h), B1.out⟩
    have g6 : (len1 : Int) ≤ 60 := by omega
    by_cases h8 : n ≤ 8000
    case neg =>
      have g8 : ¬ ((n : Int) ≤ 8000) := by omega
      go_wp2_with fail
      go_ret
      exact ⟨decide ((n : Int) ≤ 8000), rfl, (fun h => absurd (of_decide_eq_true h) (by omega)), B1.out⟩
    have g8 : (n : Int) ≤ 8000 := by omega
    go_wp2_with fail
    go_ret
    exact ⟨true, rfl, fun _ h => ⟨HF.out h2 h, h6, ALL.out h6 h8⟩, B1.out⟩
#print axioms few8
end Go.Proofs.YtpjmebaipnpegaaDoor
namespace Go.Proofs.YtpjmebaipnpegaaDoor
open Go.RowKit

set_option linter.unusedSimpArgs false in
set_option maxHeartbeats 4000000 in
set_option maxRecDepth 100000 in
theorem same_bytes8 (a b : Option Addr) (la ca lb cb : Nat) (xs ys : List Int) (w : World) (ha : Row w a la xs) (hb : Row w b lb ys) :
    Calls Tryd.prog 11 #[.slice a la ca, .slice b lb cb] w fun e w' => e = .returned (.bool ((strOfNums xs).toList == (strOfNums ys).toList)) ∧ w' = w := by
  have h1 := ha.str ca
  have h2 := hb.str cb
  clear ha hb
  go_enter Tryd.func11, Tryd.ntmps11
  go_wp2_with fail
  go_ret
  exact ⟨rfl, rfl⟩
theorem same_none (w : World) : Calls Tryd.prog 11 #[.slice none 0 0, .slice none 0 0] w fun e w' => e = .returned (.bool true) ∧ w' = w := by
  have := same_bytes8 none none 0 0 0 0 [] [] w (row_nil _) (row_nil _)
  simpa using this
theorem place_in (w : World) (i s : Int) (W : World) (h : Below (w.heap.size + 1) (w.alloc (.cells #[.int .u16 i, .int .u8 s] 33)) W) : W.cell? ⟨w.heap.size, 0, none⟩ = some (.int .u16 i) ∧ W.cell? ⟨w.heap.size, 1, none⟩ = some (.int .u8 s) := by
  have hp : W.heap[w.heap.size]? = some (.cells #[.int .u16 i, .int .u8 s] 33 (0, 0)) := (h.block _ (Nat.lt_succ_self _)).trans (at11 _ _ _ rfl)
  constructor
  · rw [cell_of_row _ _ 0 _ _ _ hp]; rfl
  · rw [cell_of_row _ _ 1 _ _ _ hp]; rfl
end Go.Proofs.YtpjmebaipnpegaaDoor
namespace Go.Proofs.YtpjmebaipnpegaaDoor
open Go.RowKit

theorem Dk.copy {w : World} {p m : Nat} {cg : Int} {ks : List Pq} {I : Int → Int → Option It} {G : Int → Int → Int} (hD : Dk w p m cg ks I G) (hn : ks.Nodup) :
    Calls Tryd.prog 20 #[.pointer (some ⟨p, 0, none⟩)] w fun e w' => ∃ P2 M2, e = .returned (.pointer (some ⟨P2, 0, none⟩)) ∧ w.heap.size ≤ P2 ∧ w.heap.size ≤ M2 ∧ Dk w' P2 M2 cg ks I G ∧ Below w.heap.size w w' := by
  obtain ⟨lst, h1, h2, h3, h4, h5, h6⟩ := hD
  refine (copy_any p m cg lst I w h1 h2 h3 (h4.nodup_iff.2 hn)).mono ?_
  rintro e w' ⟨l', he, k1, k2, k3, k4, k5, hb⟩
  exact ⟨_, _, he, by omega, by omega, ⟨l', k1, k2, k3, k4.trans h4, k5 G h5, tab_next h6 hb⟩, hb⟩
theorem same_row8 {w : World} {a b : Option Addr} {la lb : Nat} {xs : List Int} (ca cb : Nat) (ha : Row w a la xs) (hb : Row w b lb xs) : Calls Tryd.prog 11 #[.slice a la ca, .slice b lb cb] w fun e w' => e = .returned (.bool true) ∧ w' = w := by
  have := same_bytes8 a b la ca lb cb xs xs w ha hb
  simpa using this
/-- A cell that is none of a dictionary's. -/
theorem cell_kpD {w w' : World} {p m : Nat} {cg : Int} {ks : List Pq} {I : Int → Int → Option It} {G : Int → Int → Int} (hD : Dk w p m cg ks I G) (hk : Kp [p, m] w w') {b o : Nat} {v : Value} (hc : w.cell? ⟨b, o, none⟩ = some v) (h1 : v ≠ .map (some m)) (h2 : ∀ z, v ≠ .int .i64 z) : w'.cell? ⟨b, o, none⟩ = some v := by
  obtain ⟨lst, hp, hm, _⟩ := hD
  have hne : b ∉ [p, m] := fun hmem => by
    simp at hmem
    rcases hmem with rfl | rfl
    · rw [cell_of_row _ _ _ _ _ _ hp] at hc
      rcases (by omega : o = 0 ∨ o = 1 ∨ 2 ≤ o) with q | q | q
      · rw [q] at hc; simp at hc; exact h1 hc.symm
      · rw [q] at hc; simp at hc; exact h2 _ hc.symm
      · rw [Array.getElem?_eq_none (by simpa using q)] at hc
        cases hc
    · obtain ⟨es, ck, hmm, _⟩ := hm
      simp [World.cell?, hmm] at hc
  rw [World.cell?_of_block (w := w) (hk.block b (block_lt_of_cell hc) hne)]
  exact hc
theorem SlOk.kpK {w w' : World} {a : Option Addr} {len cap : Nat} {zs : List Int} (h : SlOk w a len cap zs) {p m : Nat} {cg : Int} {ks : List Pq} {I : Int → Int → Option It} {G : Int → Int → Int} (hD : Dk w p m cg ks I G) (hk : Kp [p, m] w w') : SlOk w' a len cap zs := by
  obtain ⟨lst, hp, hm, _⟩ := hD
  exact h.kpD hp hm hk
/-- What writes answers. -/
def WrPost (p m : Nat) (cg : Int) (ks : List Pq) (J : Int → Int → Option It) (G : Int → Int → Int) (w : World) (e : Ending) (w' : World) : Prop := e = .returned (.bool true) ∧ ∃ cg' J', Dk w' p m cg' ks J' G ∧ SameI J J' ∧ (OkI J → OkI J') ∧ cg ≤ cg' ∧ cg' ≤ cg + 1 ∧ Kp [p, m] w w'
theorem storePl8 (w : World) (B : Nat) (C : Array Value) (i s : Int) (T : TypeId) (hb : w.heap[B]? = some (.cells C T (0, 0))) (hC : C.size = 2) : (storeVar 33 ⟨B, 0, none⟩ (plV i s)).run Tryd.prog w = .ok () (w.setRow B #[.int .u16 i, .int .u8 s]) :=
  run_storeVar_row w B T 33 C #[.int .u16 i, .int .u8 s] hb sizeP hC (by simp [Value.oneCell'])

set_option linter.unusedSimpArgs false in
set_option maxHeartbeats 4000000 in
set_option maxRecDepth 100000 in
theorem writes8 {w : World} {p m : Nat} {cg : Int} {ks : List Pq} {J : Int → Int → Option It} {G : Int → Int → Int} (hD : Dk w p m cg ks J G) (hn : ks.Nodup) {a : Option Addr} {len : Nat} {es : List Em} (hE : IsEn w a len es) (cap : Nat) (hJ : ∀ e ∈ es, ∃ it, J e.i e.s = some it) (x : Sp) (sl : SlOk w x.a x.n x.c x.z) (hxn : x.n ≤ 8000) (hc0 : 0 ≤ cg) (hc1 : cg < 1000000) (hne : p ≠ m) (hlen : len ≤ 40) :
    Calls Tryd.prog 7 #[.pointer (some ⟨p, 0, none⟩), .slice a len cap, .agg x.A] w (WrPost p m cg ks J G w) := by
  have HD : Hid (Dk w p m cg ks J G) := hD
  have HE : Hid (IsEn w a len es) := hE
  have HJ : Hid (∀ e ∈ es, ∃ it, J e.i e.s = some it) := hJ
  have HSL : Hid (SlOk w x.a x.n x.c x.z) := sl
  have DL : Hid (p < w.heap.size ∧ m < w.heap.size) := hD.lt
  have HC : Hid (∀ W, Below w.heap.size w W → Calls Tryd.prog 20 #[.pointer (some ⟨p, 0, none⟩)] W fun e w' => ∃ P2 M2, e = .returned (.pointer (some ⟨P2, 0, none⟩)) ∧ W.heap.size ≤ P2 ∧ W.heap.size ≤ M2 ∧ Dk w' P2 M2 cg ks J G ∧ Below W.heap.size W w') := fun W hW => (hD.next hW).copy hn
  clear hD hE hJ sl
  obtain ⟨xk, xi, xs, xa, xn, xc, xz, xg⟩ := x
  dsimp only [Sp.A] at HSL hxn ⊢
  go_enter Tryd.func7, Tryd.ntmps7
  go_wp2_with fail
  refine (HC.out _ (by repeat (first | exact Below.refl _ _ | apply Below.drew | apply Below.al))).mono ?_
  rintro e w1 ⟨P2, M2, rfl, hP2, hM2, hd1, hb⟩
  have B1 : Hid (Below w.heap.size w w1) := Below.andThen (by repeat (first | exact Below.refl _ _ | apply Below.drew | apply Below.al)) hb
  have X1 : Hid (w1.heap[w.heap.size]? = some (.cells #[.int .i64 xk, .int .u16 xi, .int .u8 xs, .slice xa xn xc, .int .u8 xg] 36 (0, 0))) := blk11 hb (at11 _ _ _ rfl)
  have D1 : Hid (Dk w1 P2 M2 cg ks J G) := hd1
  have GE : Hid (w.heap.size < P2 ∧ w.heap.size < M2) := by simp at hP2 hM2; show _ ∧ _; omega
  have DP1 : Hid (Dk w1 p m cg ks J G) := HD.out.next B1.out
  have WR := DP1.out.write xi xs xa xn xc xz (HSL.out.next B1.out) (by omega) hc0 (by omega) hne
  have c1 : w1.cell? ⟨w.heap.size, 1, none⟩ = some (.int .u16 xi) := by rw [cell_of_row _ _ 1 _ _ _ X1.out]; rfl
  have c2 : w1.cell? ⟨w.heap.size, 2, none⟩ = some (.int .u8 xs) := by rw [cell_of_row _ _ 2 _ _ _ X1.out]; rfl
  have c3 : w1.cell? ⟨w.heap.size, 3, none⟩ = some (.slice xa xn xc) := by rw [cell_of_row _ _ 3 _ _ _ X1.out]; rfl
  clear hP2 hM2 hd1 hb HC
  go_wp2_with fail
  refine WR.mono ?_
  rintro e w2 ⟨c, rfl, hor⟩
  obtain ⟨J', cg', HST⟩ : ∃ J' cg', Hid (Dk w2 p m cg' ks J' G ∧ SameI J J' ∧ (OkI J → OkI J') ∧ cg ≤ cg' ∧ cg' ≤ cg + 1 ∧ Kp [p, m] w1 w2 ∧ (∀ i s it, J i s = some it → ∃ it', J' i s = some it' ∧ it'.zv = if ((i == xi && s == xs) && c == 0) = true then xz else it.zv)) := by
    rcases hor with ⟨hc, hb⟩ | ⟨hc, hmay, hd, hk⟩
    · refine ⟨J, cg, DP1.out.next hb, SameI.refl J, fun h => h, Int.le_refl _, by omega, Kp.of hb, fun i s it hi => ⟨it, hi, ?_⟩⟩
      rw [if_neg (by simp [hc])]
    · refine ⟨_, _, hd, (SameI.refl J).put _ _ _, fun h => h.put hmay, by omega, Int.le_refl _, hk, fun i s it hi => ?_⟩
      unfold putI
      by_cases hj : (i == xi && s == xs) = true
      · obtain ⟨q1, q2⟩ : i = xi ∧ s = xs := by simpa using hj
        rw [if_pos hj, ← q1, ← q2, hi]
        refine ⟨_, rfl, ?_⟩
        rw [if_pos (by simp [hc])]
      · refine ⟨it, by rw [if_neg hj]; exact hi, ?_⟩
        rw [if_neg (by simp [hj])]
  have DP2 : Hid (Dk w2 p m cg' ks J' G) := HST.out.1
  have K2 : Hid (Kp [p, m] w1 w2) := HST.out.2.2.2.2.2.1
  have VAL : Hid (∀ i s it, J i s = some it → ∃ it', J' i s = some it' ∧ it'.zv = if ((i == xi && s == xs) && c == 0) = true then xz else it.zv) := HST.out.2.2.2.2.2.2
  have FIN : Hid (SameI J J' ∧ (OkI J → OkI J') ∧ cg ≤ cg' ∧ cg' ≤ cg + 1) := ⟨HST.out.2.1, HST.out.2.2.1, HST.out.2.2.2.1, HST.out.2.2.2.2.1⟩
  have DB2 : Hid (Dk w2 P2 M2 cg ks J G) := by
    have := GE.out
    have := DL.out
    exact D1.out.kp DP1.out K2.out (by omega) (by omega) (by omega) (by omega)
  have X2 : Hid (w2.heap[w.heap.size]? = some (.cells #[.int .i64 xk, .int .u16 xi, .int .u8 xs, .slice xa xn xc, .int .u8 xg] 36 (0, 0))) := K2.out.at (by have := DL.out; simp; omega) X1.out
  have SL2 : Hid (SlOk w2 xa xn xc xz) := (HSL.out.next B1.out).kpK DP1.out K2.out
  have ENT : Hid (∀ (k : Nat) (e : Em) (b off : Nat), a = some ⟨b, off, none⟩ → es[k]? = some e → (∀ (k : Nat) (e : Em), es[k]? = some e → EmAtO w b off k e) → w2.cell? ⟨b, off + k * 10, none⟩ = some (.int .u16 e.i) ∧ w2.cell? ⟨b, off + k * 10 + 1, none⟩ = some (.int .u8 e.s)) := fun k e b off _ he hat => by
    obtain ⟨m0, m1, _⟩ := hat k e he
    exact ⟨cell_kpD DP1.out K2.out ((B1.out.cell (block_lt_of_cell m0)).trans m0) (by simp) (by simp), cell_kpD DP1.out K2.out ((B1.out.cell (block_lt_of_cell m1)).trans m1) (by simp) (by simp)⟩
  have K02 : Hid (Kp [p, m] w w2) := (Kp.of B1.out).trans K2.out
  clear hor WR HST c1 c2 c3 X1 D1 DP1 K2 HSL HD
  go_wp2_with fail
  go_loopw [9] (fun iv wr => ∃ k : Nat, k ≤ len ∧ iv = .int .i64 (k : Int) ∧ Hid (Below w2.heap.size w2 wr)) (fun iv _ => len - (intOf iv).toNat)
  case atStart => exact ⟨0, Nat.zero_le _, rfl, Below.refl _ _⟩
  case round =>
    obtain ⟨k, hk, rfl, BR⟩ := hrel
    by_cases hkN : k < len
    · have gk : (k : Int) < (len : Int) := by omega
      have gk0 : (0 : Int) ≤ (k : Int) := by omega
      obtain ⟨eb, eo, rfl, hat⟩ := HE.out.at_ (by omega)
      obtain ⟨e, he⟩ : ∃ e, es[k]? = some e := ⟨_, List.getElem?_eq_getElem (by have := HE.out.size; omega)⟩
      obtain ⟨d0, d1⟩ := ENT.out k e eb eo rfl he hat
      obtain ⟨it, hit⟩ := HJ.out e (List.mem_of_getElem? he)
      obtain ⟨it', hit', hzv⟩ := VAL.out _ _ _ hit
      obtain ⟨ei, HEi⟩ : ∃ ei, Hid (ei = e.i) := ⟨_, rfl⟩
      obtain ⟨ej, HEj⟩ : ∃ ej, Hid (ej = e.s) := ⟨_, rfl⟩
      rw [← HEi.out] at d0 hit hit' hzv
      rw [← HEj.out] at d1 hit hit' hzv
      have CEL : Hid (∀ W, Below w2.heap.size w2 W → W.cell? ⟨eb, eo + k * 10, none⟩ = some (.int .u16 ei) ∧ W.cell? ⟨eb, eo + k * 10 + 1, none⟩ = some (.int .u8 ej)) := fun W hW => ⟨(hW.cell (block_lt_of_cell d0)).trans d0, (hW.cell (block_lt_of_cell d1)).trans d1⟩
      have HIT : Hid (J ei ej = some it) := hit
      have HIT' : Hid (J' ei ej = some it') := hit'
      obtain ⟨bq, HBQ⟩ : ∃ bq, Hid (bq = (ei == xi && ej == xs)) := ⟨_, rfl⟩
      have HZV : Hid (it'.zv = if (bq && c == 0) = true then xz else it.zv) := by show _ = _; rw [HBQ.out]; exact hzv
      have EQ : ∀ W, (binOp .eql 33 (plV ei ej) (plV xi xs)).run Tryd.prog W = .ok (.bool bq) W := fun W => by rw [HBQ.out]; exact eqlP W ei ej xi xs
      have wk : IntKind.i64.wrap ((k : Int) + 1) = ((k + 1 : Nat) : Int) := by rw [IntKind.wrap_i64]; omega
      obtain ⟨n1, HN1⟩ : ∃ n1, Hid (n1 = it'.zv.length) := ⟨_, rfl⟩
      obtain ⟨n2, HN2⟩ : ∃ n2, Hid (n2 = it.zv.length) := ⟨_, rfl⟩
      have GP : Hid (∀ W, Below w2.heap.size w2 W → Calls Tryd.prog 21 #[.pointer (some ⟨p, 0, none⟩), plV ei ej] W fun e w' => (∃ a' cap', e = .returned (.tuple #[.slice a' n1 cap', .bool true]) ∧ Told W w' a' n1 cap' it'.zv) ∧ Below W.heap.size W w') := fun W hW => by rw [HN1.out]; exact (DP2.out.next hW).get HIT'.out
      have GB : Hid (∀ W, Below w2.heap.size w2 W → Calls Tryd.prog 21 #[.pointer (some ⟨P2, 0, none⟩), plV ei ej] W fun e w' => (∃ a' cap', e = .returned (.tuple #[.slice a' n2 cap', .bool true]) ∧ Told W w' a' n2 cap' it.zv) ∧ Below W.heap.size W w') := fun W hW => by rw [HN2.out]; exact (DB2.out.next hW).get HIT.out
      clear d0 d1 hat he hit hit' hzv
      go_wp2_with fail
      refine wp_region_held_drew (S := fun z => Below wr.heap.size wr z) (by kernel_rfl) (Below.drew (Below.refl _ _)) (fun hHeld => ?_)
      refine tk 0 (.slice (some ⟨eb, eo, none⟩) len cap) rfl (.inl ⟨by rfl, ?_⟩) ?_
      · intro w9 hSw
        try dsimp only at hSw
        go_simp
        all_goals try decide
        all_goals try assumption
        all_goals try omega
      try simp only [Act.put, gA, gS, gZ, sA, sZ, sS]
      refine tk 1 (.int .i64 (k : Int)) rfl (.inl ⟨by rfl, ?_⟩) ?_
      · intro w9 hSw
        try dsimp only at hSw
        go_simp
        all_goals try decide
        all_goals try assumption
        all_goals try omega
      try simp only [Act.put, gA, gS, gZ, sA, sZ, sS]
      refine tk 2 (.pointer (some ⟨eb, eo + k * 10, none⟩)) rfl (.inl ⟨by rfl, ?_⟩) ?_
      · intro w9 hSw
        try dsimp only at hSw
        go_simp
        all_goals try decide
        all_goals try assumption
        all_goals try omega
      try simp only [Act.put, gA, gS, gZ, sA, sZ, sS]
      refine tk 3 (.pointer (some ⟨eb, eo + k * 10, none⟩)) rfl (.inl ⟨by rfl, ?_⟩) ?_
      · intro w9 hSw
        try dsimp only at hSw
        go_simp
        all_goals try decide
        all_goals try assumption
        all_goals try omega
      try simp only [Act.put, gA, gS, gZ, sA, sZ, sS]
      refine tk 4 (.int .u16 ei) rfl (.inl ⟨by rfl, ?_⟩) ?_
      · intro w9 hSw
        try dsimp only at hSw
        obtain ⟨z0, z1⟩ := CEL.out w9 (Below.andThen BR.out hSw)
        go_simp
        all_goals try assumption
      try simp only [Act.put, gA, gS, gZ, sA, sZ, sS]
      refine tk 5 (.slice (some ⟨eb, eo, none⟩) len cap) rfl (.inl ⟨by rfl, ?_⟩) ?_
      · intro w9 hSw
        try dsimp only at hSw
        go_simp
        all_goals try decide
        all_goals try assumption
        all_goals try omega
      try simp only [Act.put, gA, gS, gZ, sA, sZ, sS]
      refine tk 6 (.int .i64 (k : Int)) rfl (.inl ⟨by rfl, ?_⟩) ?_
      · intro w9 hSw
        try dsimp only at hSw
        go_simp
        all_goals try decide
        all_goals try assumption
        all_goals try omega
      try simp only [Act.put, gA, gS, gZ, sA, sZ, sS]
      refine tk 7 (.pointer (some ⟨eb, eo + k * 10, none⟩)) rfl (.inl ⟨by rfl, ?_⟩) ?_
      · intro w9 hSw
        try dsimp only at hSw
        go_simp
        all_goals try decide
        all_goals try assumption
        all_goals try omega
      try simp only [Act.put, gA, gS, gZ, sA, sZ, sS]
      refine tk 8 (.pointer (some ⟨eb, eo + k * 10 + 1, none⟩)) rfl (.inl ⟨by rfl, ?_⟩) ?_
      · intro w9 hSw
        try dsimp only at hSw
        go_simp
        all_goals try decide
        all_goals try assumption
        all_goals try omega
      try simp only [Act.put, gA, gS, gZ, sA, sZ, sS]
      refine tk 9 (.int .u8 ej) rfl (.inl ⟨by rfl, ?_⟩) ?_
      · intro w9 hSw
        try dsimp only at hSw
        obtain ⟨z0, z1⟩ := CEL.out w9 (Below.andThen BR.out hSw)
        go_simp
        all_goals try assumption
      try simp only [Act.put, gA, gS, gZ, sA, sZ, sS]
      refine tk 10 (plV ei ej) rfl (.inl ⟨by rfl, ?_⟩) ?_
      · intro w9 hSw
        try dsimp only at hSw
        go_simp
        all_goals try decide
        all_goals try assumption
        all_goals try omega
      try simp only [Act.put, gA, gS, gZ, sA, sZ, sS]
      refine wpAnyH_ready (rs := [11]) (by kernel_rfl) (by simp) ?_
      refine AllReadyH.cons rfl (fun K' hK => ?_) AllReadyH.nil
      rw [if_pos (by rfl)]
      simp only [gA, gS, gZ]
      go_wp2_with fail
      refine hK.out _ _ (Below.al hHeld _) (fun hHeld => ?_)
      clear hK K'
      try simp only [Act.put, gA, gS, gZ, sA, sZ, sS]
      refine wpAnyH_ready (rs := [12]) (by kernel_rfl) (by simp) ?_
      refine AllReadyH.cons rfl (fun K' hK => ?_) AllReadyH.nil
      rw [if_pos (by rfl)]
      simp only [gA, gS, gZ]
      refine wp_store_by 33 _ _ rfl ⟨wr.heap.size, 0, none⟩ _ rfl rfl (storePl8 _ _ _ ei ej _ (at11 _ _ _ rfl) rfl) ?_
      refine hK.out _ _ (below_setRow hHeld (Nat.le_refl _) _) (fun hHeld => ?_)
      clear hK K'
      try simp only [Act.put, gA, gS, gZ, sA, sZ, sS]
      refine wpAnyH_done (by kernel_rfl) ?_ _
      obtain ⟨W3, HW3⟩ : ∃ W3, Hid ((wr.alloc (.cells #[.int .u16 0, .int .u8 0] 33)).drew.setRow wr.heap.size #[.int .u16 ei, .int .u8 ej] = W3) := ⟨_, rfl⟩
      have N3 : Hid (Below wr.heap.size wr W3) := by show Below _ _ _; rw [← HW3.out]; exact hHeld
      have PL3 : Hid (W3.heap[wr.heap.size]? = some (.cells #[.int .u16 ei, .int .u8 ej] 33 (0, 0))) := by show _ = _; rw [← HW3.out]; exact setRow_heap _ _ _ _ _ _ (at11 _ _ _ rfl)
      rw [show (wr.alloc _).drew.setRow wr.heap.size _ = W3 from HW3.out]
      clear HW3 hHeld
      have B3 : Hid (Below w2.heap.size w2 W3) := Below.andThen BR.out N3.out
      have q0 : W3.cell? ⟨wr.heap.size, 0, none⟩ = some (.int .u16 ei) := by rw [cell_of_row _ _ 0 _ _ _ PL3.out]; rfl
      have q1 : W3.cell? ⟨wr.heap.size, 1, none⟩ = some (.int .u8 ej) := by rw [cell_of_row _ _ 1 _ _ _ PL3.out]; rfl
      have G3 := GP.out _ B3.out
      go_wp2_with fail
      refine G3.mono ?_
      rintro e w4 ⟨⟨va, vc, rfl, ht⟩, hb⟩
      have B4 : Hid (Below w2.heap.size w2 w4) := Below.andThen B3.out hb
      have PL4 : Hid (w4.heap[wr.heap.size]? = some (.cells #[.int .u16 ei, .int .u8 ej] 33 (0, 0))) := blk11 hb PL3.out
      have T4 : Hid (Row w4 va n1 it'.zv) := ht.row
      clear G3 hb ht q0 q1
      have q0 : w4.cell? ⟨wr.heap.size, 0, none⟩ = some (.int .u16 ei) := by rw [cell_of_row _ _ 0 _ _ _ PL4.out]; rfl
      have q1 : w4.cell? ⟨wr.heap.size, 1, none⟩ = some (.int .u8 ej) := by rw [cell_of_row _ _ 1 _ _ _ PL4.out]; rfl
      have G4 := GB.out _ B4.out
      go_wp2_with fail
      refine G4.mono ?_
      rintro e w5 ⟨⟨ya, yc, rfl, ht⟩, hb⟩
      have B5 : Hid (Below w2.heap.size w2 w5) := Below.andThen B4.out hb
      have PL5 := blk11 hb PL4.out
      have T5 : Hid (Row w5 va n1 it'.zv) := T4.out.next hb
      have U5 : Hid (Row w5 ya n2 it.zv) := ht.row
      have X5 := blk11 B5.out X2.out
      clear G4 hb ht q0 q1
      have q0 : w5.cell? ⟨wr.heap.size, 0, none⟩ = some (.int .u16 ei) := by rw [cell_of_row _ _ 0 _ _ _ PL5]; rfl
      have q1 : w5.cell? ⟨wr.heap.size, 1, none⟩ = some (.int .u8 ej) := by rw [cell_of_row _ _ 1 _ _ _ PL5]; rfl
      have c1 : w5.cell? ⟨w.heap.size, 1, none⟩ = some (.int .u16 xi) := by rw [cell_of_row _ _ 1 _ _ _ X5]; rfl
      have c2 : w5.cell? ⟨w.heap.size, 2, none⟩ = some (.int .u8 xs) := by rw [cell_of_row _ _ 2 _ _ _ X5]; rfl
      have c3 : w5.cell? ⟨w.heap.size, 3, none⟩ = some (.slice xa xn xc) := by rw [cell_of_row _ _ 3 _ _ _ X5]; rfl
      have S5 : Hid (Row w5 xa xn xz) := (SL2.out.next B5.out).row
      clear PL5 X5
      cases bq
      case false =>
        have SB : Hid (Calls Tryd.prog 11 #[.slice va n1 vc, .slice ya n2 yc] w5 fun e w' => e = .returned (.bool true) ∧ w' = w5) := same_row8 vc yc (by have h := T5.out; rw [HZV.out] at h; exact h) U5.out
        go_wp2_with fail
        refine SB.out.mono ?_
        rintro e w5 ⟨rfl, rfl⟩
        go_wp2_with fail
        exact ⟨⟨k + 1, by omega, by go_num, B5.out⟩, by simp [intOf]; omega⟩
      by_cases hcz : c = 0
      · subst hcz
        have SB : Hid (Calls Tryd.prog 11 #[.slice va n1 vc, .slice xa xn xc] w5 fun e w' => e = .returned (.bool true) ∧ w' = w5) := same_row8 vc xc (by have h := T5.out; rw [HZV.out] at h; exact h) S5.out
        go_wp2_with fail
        refine SB.out.mono ?_
        rintro e w5 ⟨rfl, rfl⟩
        go_wp2_with fail
        exact ⟨⟨k + 1, by omega, by go_num, B5.out⟩, by simp [intOf]; omega⟩
      · have gc : (c == 0) = false := by simpa using hcz
        have SB : Hid (Calls Tryd.prog 11 #[.slice va n1 vc, .slice ya n2 yc] w5 fun e w' => e = .returned (.bool true) ∧ w' = w5) := same_row8 vc yc (by have h := T5.out; rw [HZV.out, gc] at h; exact h) U5.out
        go_wp2_with fail
        refine SB.out.mono ?_
        rintro e w5 ⟨rfl, rfl⟩
        go_wp2_with fail
        exact ⟨⟨k + 1, by omega, by go_num, B5.out⟩, by simp [intOf]; omega⟩
    · obtain rfl : k = len := by omega
      have R : Hid (∃ cg' J', Dk wr p m cg' ks J' G ∧ SameI J J' ∧ (OkI J → OkI J') ∧ cg ≤ cg' ∧ cg' ≤ cg + 1 ∧ Kp [p, m] w wr) := ⟨cg', J', DP2.out.next BR.out, FIN.out.1, FIN.out.2.1, FIN.out.2.2.1, FIN.out.2.2.2, K02.out.trans (Kp.of BR.out)⟩
      go_wp2_with fail
      go_ret
      exact ⟨rfl, R.out⟩
#print axioms writes8
end Go.Proofs.YtpjmebaipnpegaaDoor
