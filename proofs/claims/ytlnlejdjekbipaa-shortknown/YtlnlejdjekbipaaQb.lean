/-
  The walk of the document's guess.
  The walk of the document's fields, in the form of a sum.
-/
import Derived.Test.YtlnlejdjekbipaaQa
import Derived.Test.YtlnlejdjekbipaaRe
import Derived.Test.YtlnlejdjekbipaaTk9
namespace Go.Proofs.Ytlnlejdjekbipaa
open Go.RowKit

set_option linter.unusedSimpArgs false in
set_option maxHeartbeats 4000000 in
set_option maxRecDepth 100000 in
theorem guess_any (k b0 b1 b2 b3 b4 b5 b6 b7 : Int) (q z t l c : Bool) (nn : Int) (h1 : 0 ≤ b1 ∧ b1 < 256) (h2 : 0 ≤ b2 ∧ b2 < 256) (h4 : 0 ≤ b4 ∧ b4 < 256) (h5 : 0 ≤ b5 ∧ b5 < 256) (h6 : 0 ≤ b6 ∧ b6 < 256) (h7 : 0 ≤ b7 ∧ b7 < 256) (w : World) :
    Calls Try.prog 29 #[.int .u8 k, arr8 b0 b1 b2 b3 b4 b5 b6 b7, .bool q, .bool z, .bool t, .bool l, .bool c, .int .i64 nn] w fun e w' => e = .returned (cmV k (b1 + 256 * b2) b3 z (b4 + 256 * b5 + 65536 * b6 + 16777216 * b7) q none 0 0 t l c nn 0 0 0 (b4 + 256 * b5 + 65536 * b6 + 16777216 * b7)) ∧ Below w.heap.size w w' := by
  have K1 : Hid (∀ W, Calls Try.prog 66 #[arr8 b0 b1 b2 b3 b4 b5 b6 b7, .int .i64 1, .int .i64 2] W fun e w' => e = .returned (.int .u32 (b1 + 256 * b2)) ∧ ∃ o1, w' = W.alloc o1) := fun W => number12 b0 b1 b2 b3 b4 b5 b6 b7 h1 h2 W
  have K4 : Hid (∀ W, Calls Try.prog 66 #[arr8 b0 b1 b2 b3 b4 b5 b6 b7, .int .i64 4, .int .i64 4] W fun e w' => e = .returned (.int .u32 (b4 + 256 * b5 + 65536 * b6 + 16777216 * b7)) ∧ ∃ o1, w' = W.alloc o1) := fun W => number44 b0 b1 b2 b3 b4 b5 b6 b7 h4 h5 h6 h7 W
  have cI : Hid (IntKind.u16.wrap (b1 + 256 * b2) = b1 + 256 * b2) := by show _ = _; simp [IntKind.wrap, IntKind.bits, IntKind.signed]; omega
  generalize b1 + 256 * b2 = I at K1 cI ⊢
  generalize b4 + 256 * b5 + 65536 * b6 + 16777216 * b7 = N at K4 ⊢
  clear h1 h2 h4 h5 h6 h7
  go_enter Try.func29, Try.ntmps29
  go_wp2_with fail
  refine wp_region_held_drew (S := fun x => Below w.heap.size w x ∧ x.heap[w.heap.size]? = some (.cells (ar8 b0 b1 b2 b3 b4 b5 b6 b7) 31 (0, 0)) ∧ ∃ C : Array Value, C.size = 15 ∧ x.heap[w.heap.size + 1]? = some (.cells C 36 (0, 0))) (by kernel_rfl) (⟨Below.drew (Below.al (Below.al (Below.refl _ _) _) _), (heap_drew _ _).trans (ext_al (heap_new _ _)), cmC 0 0 0 false 0 false none 0 0 false false false 0 0 0 0 0, rfl, (heap_drew _ _).trans (heap_at _ _ _ (by simp))⟩) (fun hHeld => ?_)
  obtain ⟨hW, hB, C0, hC0, hR⟩ := id hHeld
  refine tk 0 (.int .u8 k) rfl (.inl ⟨by rfl, ?_⟩) ?_
  · intro w9 hSw
    try dsimp only at hSw
    go_simp
    all_goals try decide
    all_goals try assumption
    all_goals try omega
  try simp only [Act.put, gA, gS, gZ, sA, sZ, sS]
  refine tk 1 (arr8 b0 b1 b2 b3 b4 b5 b6 b7) rfl (.inl ⟨by rfl, ?_⟩) ?_
  · intro w9 hSw
    try dsimp only at hSw
    exact ex_load 31 (.tmp 9) rfl _ _ rfl (load8 _ _ _ _ _ _ _ _ _ _ _ hSw.2.1)
  try simp only [Act.put, gA, gS, gZ, sA, sZ, sS]
  refine tk 7 (.bool q) rfl (.inl ⟨by rfl, ?_⟩) ?_
  · intro w9 hSw
    try dsimp only at hSw
    go_simp
    all_goals try decide
    all_goals try assumption
    all_goals try omega
  try simp only [Act.put, gA, gS, gZ, sA, sZ, sS]
  refine tk 8 (.bool z) rfl (.inl ⟨by rfl, ?_⟩) ?_
  · intro w9 hSw
    try dsimp only at hSw
    go_simp
    all_goals try decide
    all_goals try assumption
    all_goals try omega
  try simp only [Act.put, gA, gS, gZ, sA, sZ, sS]
  refine tk 9 (.bool t) rfl (.inl ⟨by rfl, ?_⟩) ?_
  · intro w9 hSw
    try dsimp only at hSw
    go_simp
    all_goals try decide
    all_goals try assumption
    all_goals try omega
  try simp only [Act.put, gA, gS, gZ, sA, sZ, sS]
  refine tk 10 (.bool l) rfl (.inl ⟨by rfl, ?_⟩) ?_
  · intro w9 hSw
    try dsimp only at hSw
    go_simp
    all_goals try decide
    all_goals try assumption
    all_goals try omega
  try simp only [Act.put, gA, gS, gZ, sA, sZ, sS]
  refine tk 11 (.bool c) rfl (.inl ⟨by rfl, ?_⟩) ?_
  · intro w9 hSw
    try dsimp only at hSw
    go_simp
    all_goals try decide
    all_goals try assumption
    all_goals try omega
  try simp only [Act.put, gA, gS, gZ, sA, sZ, sS]
  refine tk 12 (arr8 b0 b1 b2 b3 b4 b5 b6 b7) rfl (.inl ⟨by rfl, ?_⟩) ?_
  · intro w9 hSw
    try dsimp only at hSw
    exact ex_load 31 (.tmp 9) rfl _ _ rfl (load8 _ _ _ _ _ _ _ _ _ _ _ hSw.2.1)
  try simp only [Act.put, gA, gS, gZ, sA, sZ, sS]
  refine tk 14 (arr8 b0 b1 b2 b3 b4 b5 b6 b7) rfl (.inl ⟨by rfl, ?_⟩) ?_
  · intro w9 hSw
    try dsimp only at hSw
    exact ex_load 31 (.tmp 9) rfl _ _ rfl (load8 _ _ _ _ _ _ _ _ _ _ _ hSw.2.1)
  try simp only [Act.put, gA, gS, gZ, sA, sZ, sS]
  refine tk 16 (.int .i64 nn) rfl (.inl ⟨by rfl, ?_⟩) ?_
  · intro w9 hSw
    try dsimp only at hSw
    go_simp
    all_goals try decide
    all_goals try assumption
    all_goals try omega
  try simp only [Act.put, gA, gS, gZ, sA, sZ, sS]
  refine tk 4 (.pointer (some ⟨w.heap.size, 3, none⟩)) rfl (.inl ⟨by rfl, ?_⟩) ?_
  · intro w9 hSw
    try dsimp only at hSw
    go_simp
    all_goals try decide
    all_goals try assumption
    all_goals try omega
  try simp only [Act.put, gA, gS, gZ, sA, sZ, sS]
  refine tk 5 (.int .u8 b3) rfl (.inl ⟨by rfl, ?_⟩) ?_
  · intro w9 hSw
    try dsimp only at hSw
    exact ex_load 5 (.tmp 21) rfl _ _ rfl (ld_5 _ _ _ _ (by rw [cell_of_row _ _ 3 _ _ _ hSw.2.1]; rfl))
  try simp only [Act.put, gA, gS, gZ, sA, sZ, sS]
  refine wpAnyH_ready (rs := [2]) (by kernel_rfl) (by simp) ?_
  refine AllReadyH.cons rfl (fun K' hK => ?_) AllReadyH.nil
  rw [if_pos (by rfl)]
  simp only [gA, gS, gZ]
  go_wp2_with fail
  refine (K1.out _).mono ?_
  rintro r ww ⟨rfl, v1, rfl⟩
  try go_wp2_with fail
  refine hK.out _ _ (⟨Below.al hW _, ext_al hB, C0, hC0, ext_al hR⟩) (fun hHeld => ?_)
  clear hK K'
  try simp only [Act.put, gA, gS, gZ, sA, sZ, sS]
  clear hW hB hC0 hR
  obtain ⟨hW, hB, C0, hC0, hR⟩ := id hHeld
  refine tk 3 (.int .u16 I) rfl (.inl ⟨by rfl, ?_⟩) ?_
  · intro w9 hSw
    try dsimp only at hSw
    go_simp
    all_goals first | exact cI.out | (rw [cI.out]; done) | (simp only [cI.out]; done) | skip
  try simp only [Act.put, gA, gS, gZ, sA, sZ, sS]
  refine tk 6 (.agg #[.int .u16 I, .int .u8 b3]) rfl (.inl ⟨by rfl, ?_⟩) ?_
  · intro w9 hSw
    try dsimp only at hSw
    go_simp
    all_goals try decide
    all_goals try assumption
    all_goals try omega
  try simp only [Act.put, gA, gS, gZ, sA, sZ, sS]
  refine wpAnyH_ready (rs := [13]) (by kernel_rfl) (by simp) ?_
  refine AllReadyH.cons rfl (fun K' hK => ?_) AllReadyH.nil
  rw [if_pos (by rfl)]
  simp only [gA, gS, gZ]
  go_wp2_with fail
  refine (K4.out _).mono ?_
  rintro r ww ⟨rfl, v2, rfl⟩
  try go_wp2_with fail
  refine hK.out _ _ (⟨Below.al hW _, ext_al hB, C0, hC0, ext_al hR⟩) (fun hHeld => ?_)
  clear hK K'
  try simp only [Act.put, gA, gS, gZ, sA, sZ, sS]
  clear hW hB hC0 hR
  obtain ⟨hW, hB, C0, hC0, hR⟩ := id hHeld
  refine wpAnyH_ready (rs := [15]) (by kernel_rfl) (by simp) ?_
  refine AllReadyH.cons rfl (fun K' hK => ?_) AllReadyH.nil
  rw [if_pos (by rfl)]
  simp only [gA, gS, gZ]
  go_wp2_with fail
  refine (K4.out _).mono ?_
  rintro r ww ⟨rfl, v3, rfl⟩
  try go_wp2_with fail
  refine hK.out _ _ (⟨Below.al hW _, ext_al hB, C0, hC0, ext_al hR⟩) (fun hHeld => ?_)
  clear hK K'
  try simp only [Act.put, gA, gS, gZ, sA, sZ, sS]
  clear hW hB hC0 hR
  obtain ⟨hW, hB, C0, hC0, hR⟩ := id hHeld
  refine tk 17 (cmV k I b3 z N q none 0 0 t l c nn 0 0 0 N) rfl (.inl ⟨by rfl, ?_⟩) ?_
  · intro w9 hSw
    try dsimp only at hSw
    go_simp
    all_goals try decide
    all_goals try assumption
    all_goals try omega
  try simp only [Act.put, gA, gS, gZ, sA, sZ, sS]
  refine wpAnyH_ready (rs := [18]) (by kernel_rfl) (by simp) ?_
  refine AllReadyH.cons rfl (fun K' hK => ?_) AllReadyH.nil
  rw [if_pos (by rfl)]
  simp only [gA, gS, gZ]
  refine wp_store_by 36 (.tmp 16) (.tmp 34) rfl _ _ rfl rfl (storeRC _ _ C0 k I b3 z N q none 0 0 t l c nn 0 0 0 N _ hR hC0) ?_
  refine hK.out _ _ (⟨below_setRow hW (by omega) _, (setRow_other _ _ _ _ (by omega)).trans hB, _, rfl, setRow_heap _ _ _ _ _ _ hR⟩) (fun hHeld => ?_)
  clear hK K'
  try simp only [Act.put, gA, gS, gZ, sA, sZ, sS]
  refine wpAnyH_done (by kernel_rfl) ?_ _
  have hc := fun j => cell_of_row _ (w.heap.size + 1) j _ _ _ (setRow_heap _ _ _ (cmC k I b3 z N q none 0 0 t l c nn 0 0 0 N) _ _ hR)
  have hb := below_setRow hW (Nat.le_succ w.heap.size) (cmC k I b3 z N q none 0 0 t l c nn 0 0 0 N)
  clear hHeld hW hB hC0
  go_wp2_with fail
  refine bodyPost_ret (v := cmV k I b3 z N q none 0 0 t l c nn 0 0 0 N) ?_ rfl ⟨rfl, hb⟩
  simp [results, Try.results29, go_sem, hc]
#print axioms guess_any
end Go.Proofs.Ytlnlejdjekbipaa
namespace Go.Proofs.Ytlnlejdjekbipaa
open Go.RowKit

set_option linter.unusedVariables false in
set_option linter.unusedSimpArgs false in
set_option maxHeartbeats 4000000 in
set_option maxRecDepth 100000 in
theorem fields_8 (k i s : Int) (z : Bool) (n : Int) (q t l c : Bool) (nn o b0 b1 b2 b3 b4 b5 b6 b7 : Int) (h0 : 0 ≤ b0 ∧ b0 < 256) (h1 : 0 ≤ b1 ∧ b1 < 256) (h2 : 0 ≤ b2 ∧ b2 < 256) (w : World) :
    Calls Try.prog 28 #[cmV k i s z n q none 0 0 t l c nn 0 0 0 o, arr8 b0 b1 b2 b3 b4 b5 b6 b7, .int .i64 8] w (FPost w (fieldsP ⟨k, i, s, z, n, q, [], t, l, c, nn, 0, 0, 0, o⟩ ⟨b0, b1, b2, b3, b4, b5, b6, b7⟩ 8)) := by
  have K1 : Hid (∀ W, Calls Try.prog 66 #[arr8 b0 b1 b2 b3 b4 b5 b6 b7, .int .i64 1, .int .i64 2] W fun e w' => e = .returned (.int .u32 (b1 + 256 * b2)) ∧ ∃ o1, w' = W.alloc o1) := fun W => number12 b0 b1 b2 b3 b4 b5 b6 b7 h1 h2 W
  have cI : Hid (IntKind.u16.wrap (b1 + 256 * b2) = b1 + 256 * b2) := by show _ = _; simp [IntKind.wrap, IntKind.bits, IntKind.signed]; omega
  have c0 : Hid (IntKind.i64.wrap b0 = b0) := wrapI64 _ (by omega) (by omega)
  show Calls _ _ _ _ (FPost w ⟨k, 0, 0, false, 0, false, [], false, false, false, 0, 0, b1 + 256 * b2, b0 / 4 % 8, 0⟩)
  generalize b1 + 256 * b2 = I at K1 cI ⊢
  obtain ⟨Q4, hQ4, l4, g4⟩ : ∃ Q, b0 / 4 = Q ∧ 0 ≤ Q ∧ Q < 64 := ⟨_, rfl, by omega, by omega⟩
  have t4 : Hid (b0.tdiv 4 = Q4) := by show _ = _; rw [Int.tdiv_eq_ediv_of_nonneg h0.1]; exact hQ4
  obtain ⟨E8, hE8, l8, g8⟩ : ∃ Q, Q4 % 8 = Q ∧ 0 ≤ Q ∧ Q < 8 := ⟨_, rfl, by omega, by omega⟩
  have t8 : Hid (Q4.tmod 8 = E8) := by show _ = _; rw [Int.tmod_eq_emod_of_nonneg l4]; exact hE8
  have w4 : Hid (IntKind.i64.wrap Q4 = Q4) := wrapI64 _ (by omega) (by omega)
  have w8 : Hid (IntKind.i64.wrap E8 = E8) := wrapI64 _ (by omega) (by omega)
  rw [hQ4, hE8]
  clear hQ4 hE8 h0 h1 h2
  go_enter Try.func28, Try.ntmps28
  go_wp2_with fail
  refine wp_region_held_drew (S := fun x => Below w.heap.size w x ∧ x.heap[w.heap.size]? = some (.cells (cmC k i s z n q none 0 0 t l c nn 0 0 0 o) 36 (0, 0)) ∧ x.heap[w.heap.size + 1]? = some (.cells (ar8 b0 b1 b2 b3 b4 b5 b6 b7) 31 (0, 0)) ∧ ∃ C : Array Value, C.size = 15 ∧ x.heap[w.heap.size + 1 + 1]? = some (.cells C 36 (0, 0))) (by kernel_rfl) (⟨Below.drew (Below.al (Below.al (Below.al (Below.refl _ _) _) _) _), (heap_drew _ _).trans (ext_al (ext_al (heap_new _ _))), (heap_drew _ _).trans (ext_al (heap_at _ _ _ (by simp))), cmC 0 0 0 false 0 false none 0 0 false false false 0 0 0 0 0, rfl, (heap_drew _ _).trans (heap_at _ _ _ (by simp))⟩) (fun hHeld => ?_)
  obtain ⟨hW, hG, hB, C0, hC0, hR⟩ := id hHeld
  refine tk 0 (.pointer (some ⟨w.heap.size, 0, none⟩)) rfl (.inl ⟨by rfl, ?_⟩) ?_
  · intro w9 hSw
    try dsimp only at hSw
    go_simp
    all_goals try decide
    all_goals try assumption
    all_goals try omega
  try simp only [Act.put, gA, gS, gZ, sA, sZ, sS]
  refine tk 1 (.int .u8 k) rfl (.inl ⟨by rfl, ?_⟩) ?_
  · intro w9 hSw
    try dsimp only at hSw
    exact ex_load 5 (.tmp 103) rfl _ _ rfl (ld_5 _ _ _ _ (by rw [cell_of_row _ _ 0 _ _ _ hSw.2.1]; rfl))
  try simp only [Act.put, gA, gS, gZ, sA, sZ, sS]
  refine tk 2 (arr8 b0 b1 b2 b3 b4 b5 b6 b7) rfl (.inl ⟨by rfl, ?_⟩) ?_
  · intro w9 hSw
    try dsimp only at hSw
    exact ex_load 31 (.tmp 4) rfl _ _ rfl (load8 _ _ _ _ _ _ _ _ _ _ _ hSw.2.2.1)
  try simp only [Act.put, gA, gS, gZ, sA, sZ, sS]
  refine tk 5 (.pointer (some ⟨w.heap.size + 1, 0, none⟩)) rfl (.inl ⟨by rfl, ?_⟩) ?_
  · intro w9 hSw
    try dsimp only at hSw
    go_simp
    all_goals try decide
    all_goals try assumption
    all_goals try omega
  try simp only [Act.put, gA, gS, gZ, sA, sZ, sS]
  refine tk 6 (.int .u8 b0) rfl (.inl ⟨by rfl, ?_⟩) ?_
  · intro w9 hSw
    try dsimp only at hSw
    exact ex_load 5 (.tmp 108) rfl _ _ rfl (ld_5 _ _ _ _ (by rw [cell_of_row _ _ 0 _ _ _ hSw.2.2.1]; rfl))
  try simp only [Act.put, gA, gS, gZ, sA, sZ, sS]
  refine tk 7 (.int .i64 b0) rfl (.inl ⟨by rfl, ?_⟩) ?_
  · intro w9 hSw
    try dsimp only at hSw
    go_simp
    all_goals first | exact c0.out | (rw [c0.out]; done) | (simp only [c0.out]; done) | skip
  try simp only [Act.put, gA, gS, gZ, sA, sZ, sS]
  refine tk 8 (.int .i64 Q4) rfl (.inl ⟨by rfl, ?_⟩) ?_
  · intro w9 hSw
    try dsimp only at hSw
    go_simp
    all_goals (first | (simp only [t4.out, w4.out]; done) | (rw [t4.out, w4.out]; done) | skip)
  try simp only [Act.put, gA, gS, gZ, sA, sZ, sS]
  refine tk 9 (.int .i64 E8) rfl (.inl ⟨by rfl, ?_⟩) ?_
  · intro w9 hSw
    try dsimp only at hSw
    go_simp
    all_goals (first | (simp only [t8.out, w8.out]; done) | (rw [t8.out, w8.out]; done) | skip)
  try simp only [Act.put, gA, gS, gZ, sA, sZ, sS]
  refine wpAnyH_ready (rs := [3]) (by kernel_rfl) (by simp) ?_
  refine AllReadyH.cons rfl (fun K' hK => ?_) AllReadyH.nil
  rw [if_pos (by rfl)]
  simp only [gA, gS, gZ]
  go_wp2_with fail
  refine (K1.out _).mono ?_
  rintro r ww ⟨rfl, v1, rfl⟩
  try go_wp2_with fail
  refine hK.out _ _ (⟨Below.al hW _, ext_al hG, ext_al hB, C0, hC0, ext_al hR⟩) (fun hHeld => ?_)
  clear hK K'
  try simp only [Act.put, gA, gS, gZ, sA, sZ, sS]
  clear hW hG hB hC0 hR
  obtain ⟨hW, hG, hB, C0, hC0, hR⟩ := id hHeld
  refine tk 4 (.int .u16 I) rfl (.inl ⟨by rfl, ?_⟩) ?_
  · intro w9 hSw
    try dsimp only at hSw
    go_simp
    all_goals first | exact cI.out | (rw [cI.out]; done) | (simp only [cI.out]; done) | skip
  try simp only [Act.put, gA, gS, gZ, sA, sZ, sS]
  refine tk 10 (cmV k 0 0 false 0 false none 0 0 false false false 0 0 I E8 0) rfl (.inl ⟨by rfl, ?_⟩) ?_
  · intro w9 hSw
    try dsimp only at hSw
    go_simp
    all_goals try decide
    all_goals try assumption
    all_goals try omega
  try simp only [Act.put, gA, gS, gZ, sA, sZ, sS]
  refine wpAnyH_ready (rs := [11]) (by kernel_rfl) (by simp) ?_
  refine AllReadyH.cons rfl (fun K' hK => ?_) AllReadyH.nil
  rw [if_pos (by rfl)]
  simp only [gA, gS, gZ]
  refine wp_store_by 36 (.tmp 6) (.tmp 113) rfl _ _ rfl rfl (storeRC _ _ C0 k 0 0 false 0 false none 0 0 false false false 0 0 I E8 0 _ hR hC0) ?_
  refine hK.out _ _ (⟨below_setRow hW (by omega) _, (setRow_other _ _ _ _ (by omega)).trans hG, (setRow_other _ _ _ _ (by omega)).trans hB, _, rfl, setRow_heap _ _ _ _ _ _ hR⟩) (fun hHeld => ?_)
  clear hK K'
  try simp only [Act.put, gA, gS, gZ, sA, sZ, sS]
  refine wpAnyH_done (by kernel_rfl) ?_ _
  have hc := fun j => cell_of_row _ (w.heap.size + 1 + 1) j _ _ _ (setRow_heap _ _ _ (cmC k 0 0 false 0 false none 0 0 false false false 0 0 I E8 0) _ _ hR)
  have hb := below_setRow hW (show w.heap.size ≤ w.heap.size + 1 + 1 by omega) (cmC k 0 0 false 0 false none 0 0 false false false 0 0 I E8 0)
  clear hHeld hW hB hC0
  go_wp2_with fail
  refine bodyPost_ret (v := cmV k 0 0 false 0 false none 0 0 false false false 0 0 I E8 0) ?_ rfl ⟨none, 0, rfl, row_nil _, (fun _ _ h => by cases h), hb⟩
  simp [results, Try.results28, go_sem, hc]
#print axioms fields_8
end Go.Proofs.Ytlnlejdjekbipaa
