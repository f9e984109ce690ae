/-
  The walk of the document's stop.
  The walk of the document's sized.
-/
import Derived.Test.YtgpegnpjkkofaaaRe
namespace Go.Proofs.Ytgpegnpjkkofaaa
open Go.RowKit

set_option linter.unusedSimpArgs false in
set_option maxHeartbeats 4000000 in
set_option maxRecDepth 100000 in
theorem rstop_any (C : Cm) (ok : C.Ok) (a : Option Addr) (cap : Nat) (w : World) (hr : Row w a C.d.length C.d) :
    Calls Try.prog 60 #[C.v a C.d.length cap] w (QPost w (wStop 128 C)) := by
  have HS : Hid (∀ W, Below w.heap.size w W → Calls Try.prog 18 #[cmV C.k C.i C.s false 0 false none 0 0 false false false 0 0 0 0 C.o, cmV C.k C.i C.s C.z C.n C.q a C.d.length cap C.t C.l C.c C.b C.e C.u C.m C.o] W fun r w' => r = .returned (.bool (C.only 4097)) ∧ ∃ o1 o2, w' = (W.alloc o1).alloc o2) := fun W hb => by
    have := same_any ⟨C.k, C.i, C.s, false, 0, false, [], false, false, false, 0, 0, 0, 0, C.o⟩ C none 0 0 a C.d.length cap W (row_nil W) (hr.next hb)
    rw [bare_4097] at this
    exact this
  obtain ⟨x0, hx0⟩ : ∃ y, (128 : Int) % 256 = y := ⟨_, rfl⟩
  have KP : Hid (∀ W, Calls Try.prog 59 #[.int .i64 (128), .agg #[.int .u16 C.i, .int .u8 C.s]] W fun e w' => e = .returned (arr8 x0 (C.i % 256) (C.i / 256) C.s 0 0 0 0) ∧ ∃ o1 o2 o3 o4 o5, w' = ((((W.alloc o1).alloc o2).alloc o3).alloc o4).alloc o5) := fun W => hx0 ▸ placed_any (128) C.i C.s ok.i W
  have hO : Hid (wStop 128 C = if C.only 4097 then some ⟨x0, C.i % 256, C.i / 256, C.s, C.o % 256, C.o / 256 % 256, C.o / 65536 % 256, C.o / 16777216⟩ else none) := by rw [← hx0]; rfl
  have hi := ok.i
  have hx := ok.o
  generalize C.only 4097 = E at HS hO
  generalize wStop 128 C = O at hO ⊢
  generalize C.d.length = len at HS ⊢
  clear hr ok hx0
  obtain ⟨k, i, s, z, n, q, d, t, l, c, b, e, u, m, o⟩ := C
  dsimp only at HS hO hi hx KP ⊢
  go_enter Try.func60, Try.ntmps60
  go_wp2_with fail
  refine wp_region_held_drew (S := fun x => Below w.heap.size w x ∧ x.heap[w.heap.size]? = some (.cells (cmC k i s z n q a len cap t l c b e u m o) 36 (0, 0)) ∧ ∃ C : Array Value, C.size = 8 ∧ x.heap[w.heap.size + 1]? = some (.cells C 31 (0, 0))) (by kernel_rfl) (⟨(by repeat (first | assumption | exact Below.refl _ _ | apply Below.drew | apply Below.al)), (by repeat (first | assumption | exact heap_at _ _ _ rfl | exact heap_at _ _ _ (by simp) | rw [heap_drew] | rw [Below.heap_alloc _ _ _ (by first | (simp; done) | (simp; omega) | omega)])), _, rfl, (by repeat (first | assumption | exact heap_at _ _ _ rfl | exact heap_at _ _ _ (by simp) | rw [heap_drew] | rw [Below.heap_alloc _ _ _ (by first | (simp; done) | (simp; omega) | omega)]))⟩) (fun hHeld => ?_)
  obtain ⟨hW, hB, C0, hC0, hR⟩ := id hHeld
  refine wpAnyH_take (i := 0) (v := (.pointer (some ⟨w.heap.size, 1, none⟩))) rfl (by kernel_rfl) (by kernel_rfl) (by kernel_rfl) (fun _ _ _ h => h) (Or.inl ⟨by rfl, ?_⟩) (by assumption) ?_
  · intro w9 hSw
    try dsimp only at hSw
    go_simp
    all_goals try decide
    all_goals try assumption
    all_goals try omega
  try simp only [Act.put, List.getElem_toArray, List.getElem_cons_succ, List.getElem_cons_zero, List.setIfInBounds_toArray, List.set_cons_zero, List.set_cons_succ]
  refine wpAnyH_take (i := 1) (v := (.agg #[.int .u16 i, .int .u8 s])) rfl (by kernel_rfl) (by kernel_rfl) (by kernel_rfl) (fun _ _ _ h => h) (Or.inl ⟨by rfl, ?_⟩) (by assumption) ?_
  · intro w9 hSw
    try dsimp only at hSw
    exact ex_load 24 (.tmp 4) rfl _ _ rfl (ldPl _ _ _ _ (by rw [cell_of_row _ _ 1 _ _ _ hSw.2.1]; rfl) (by rw [cell_of_row _ _ 2 _ _ _ hSw.2.1]; rfl))
  try simp only [Act.put, List.getElem_toArray, List.getElem_cons_succ, List.getElem_cons_zero, List.setIfInBounds_toArray, List.set_cons_zero, List.set_cons_succ]
  refine wpAnyH_take (i := 3) (v := (.pointer (some ⟨w.heap.size, 14, none⟩))) rfl (by kernel_rfl) (by kernel_rfl) (by kernel_rfl) (fun _ _ _ h => h) (Or.inl ⟨by rfl, ?_⟩) (by assumption) ?_
  · intro w9 hSw
    try dsimp only at hSw
    go_simp
    all_goals try decide
    all_goals try assumption
    all_goals try omega
  try simp only [Act.put, List.getElem_toArray, List.getElem_cons_succ, List.getElem_cons_zero, List.setIfInBounds_toArray, List.set_cons_zero, List.set_cons_succ]
  refine wpAnyH_take (i := 4) (v := (.int .u32 o)) rfl (by kernel_rfl) (by kernel_rfl) (by kernel_rfl) (fun _ _ _ h => h) (Or.inl ⟨by rfl, ?_⟩) (by assumption) ?_
  · intro w9 hSw
    try dsimp only at hSw
    exact ex_load 27 (.tmp 7) rfl _ _ rfl (ld_27 _ _ _ _ (by rw [cell_of_row _ _ 14 _ _ _ hSw.2.1]; rfl))
  try simp only [Act.put, List.getElem_toArray, List.getElem_cons_succ, List.getElem_cons_zero, List.setIfInBounds_toArray, List.set_cons_zero, List.set_cons_succ]
  refine wpAnyH_take (i := 6) (v := (.pointer (some ⟨w.heap.size, 0, none⟩))) rfl (by kernel_rfl) (by kernel_rfl) (by kernel_rfl) (fun _ _ _ h => h) (Or.inl ⟨by rfl, ?_⟩) (by assumption) ?_
  · intro w9 hSw
    try dsimp only at hSw
    go_simp
    all_goals try decide
    all_goals try assumption
    all_goals try omega
  try simp only [Act.put, List.getElem_toArray, List.getElem_cons_succ, List.getElem_cons_zero, List.setIfInBounds_toArray, List.set_cons_zero, List.set_cons_succ]
  refine wpAnyH_take (i := 7) (v := (.int .u8 k)) rfl (by kernel_rfl) (by kernel_rfl) (by kernel_rfl) (fun _ _ _ h => h) (Or.inl ⟨by rfl, ?_⟩) (by assumption) ?_
  · intro w9 hSw
    try dsimp only at hSw
    exact ex_load 5 (.tmp 10) rfl _ _ rfl (ld_5 _ _ _ _ (by rw [cell_of_row _ _ 0 _ _ _ hSw.2.1]; rfl))
  try simp only [Act.put, List.getElem_toArray, List.getElem_cons_succ, List.getElem_cons_zero, List.setIfInBounds_toArray, List.set_cons_zero, List.set_cons_succ]
  refine wpAnyH_take (i := 8) (v := (.pointer (some ⟨w.heap.size, 1, none⟩))) rfl (by kernel_rfl) (by kernel_rfl) (by kernel_rfl) (fun _ _ _ h => h) (Or.inl ⟨by rfl, ?_⟩) (by assumption) ?_
  · intro w9 hSw
    try dsimp only at hSw
    go_simp
    all_goals try decide
    all_goals try assumption
    all_goals try omega
  try simp only [Act.put, List.getElem_toArray, List.getElem_cons_succ, List.getElem_cons_zero, List.setIfInBounds_toArray, List.set_cons_zero, List.set_cons_succ]
  refine wpAnyH_take (i := 9) (v := (.agg #[.int .u16 i, .int .u8 s])) rfl (by kernel_rfl) (by kernel_rfl) (by kernel_rfl) (fun _ _ _ h => h) (Or.inl ⟨by rfl, ?_⟩) (by assumption) ?_
  · intro w9 hSw
    try dsimp only at hSw
    exact ex_load 24 (.tmp 12) rfl _ _ rfl (ldPl _ _ _ _ (by rw [cell_of_row _ _ 1 _ _ _ hSw.2.1]; rfl) (by rw [cell_of_row _ _ 2 _ _ _ hSw.2.1]; rfl))
  try simp only [Act.put, List.getElem_toArray, List.getElem_cons_succ, List.getElem_cons_zero, List.setIfInBounds_toArray, List.set_cons_zero, List.set_cons_succ]
  refine wpAnyH_take (i := 10) (v := (.pointer (some ⟨w.heap.size, 14, none⟩))) rfl (by kernel_rfl) (by kernel_rfl) (by kernel_rfl) (fun _ _ _ h => h) (Or.inl ⟨by rfl, ?_⟩) (by assumption) ?_
  · intro w9 hSw
    try dsimp only at hSw
    go_simp
    all_goals try decide
    all_goals try assumption
    all_goals try omega
  try simp only [Act.put, List.getElem_toArray, List.getElem_cons_succ, List.getElem_cons_zero, List.setIfInBounds_toArray, List.set_cons_zero, List.set_cons_succ]
  refine wpAnyH_take (i := 11) (v := (.int .u32 o)) rfl (by kernel_rfl) (by kernel_rfl) (by kernel_rfl) (fun _ _ _ h => h) (Or.inl ⟨by rfl, ?_⟩) (by assumption) ?_
  · intro w9 hSw
    try dsimp only at hSw
    exact ex_load 27 (.tmp 14) rfl _ _ rfl (ld_27 _ _ _ _ (by rw [cell_of_row _ _ 14 _ _ _ hSw.2.1]; rfl))
  try simp only [Act.put, List.getElem_toArray, List.getElem_cons_succ, List.getElem_cons_zero, List.setIfInBounds_toArray, List.set_cons_zero, List.set_cons_succ]
  refine wpAnyH_take (i := 12) (v := (cmV k i s false 0 false none 0 0 false false false 0 0 0 0 o)) rfl (by kernel_rfl) (by kernel_rfl) (by kernel_rfl) (fun _ _ _ h => h) (Or.inl ⟨by rfl, ?_⟩) (by assumption) ?_
  · intro w9 hSw
    try dsimp only at hSw
    go_simp
    all_goals try decide
    all_goals try assumption
    all_goals try omega
  try simp only [Act.put, List.getElem_toArray, List.getElem_cons_succ, List.getElem_cons_zero, List.setIfInBounds_toArray, List.set_cons_zero, List.set_cons_succ]
  refine wpAnyH_take (i := 13) (v := (cmV k i s z n q a len cap t l c b e u m o)) rfl (by kernel_rfl) (by kernel_rfl) (by kernel_rfl) (fun _ _ _ h => h) (Or.inl ⟨by rfl, ?_⟩) (by assumption) ?_
  · intro w9 hSw
    try dsimp only at hSw
    exact ex_load 36 (.tmp 1) rfl _ _ rfl (loadRC _ _ _ _ _ _ _ _ _ _ _ _ _ _ _ _ _ _ _ _ hSw.2.1)
  try simp only [Act.put, List.getElem_toArray, List.getElem_cons_succ, List.getElem_cons_zero, List.setIfInBounds_toArray, List.set_cons_zero, List.set_cons_succ]
  refine wpAnyH_ready (rs := [2]) (by kernel_rfl) (by simp) ?_
  refine AllReadyH.cons rfl (fun K' hK => ?_) AllReadyH.nil
  rw [if_pos (by rfl)]
  simp only [List.getElem_toArray, List.getElem_cons_succ, List.getElem_cons_zero]
  go_wp2_with fail
  refine (KP.out _).mono ?_
  rintro r ww ⟨rfl, v1_0, v1_1, v1_2, v1_3, v1_4, rfl⟩
  try go_wp2_with fail
  refine hK.out _ _ (⟨(Below.al (Below.al (Below.al (Below.al (Below.al hW _) _) _) _) _), (ext_al (ext_al (ext_al (ext_al (ext_al hB))))), C0, hC0, (ext_al (ext_al (ext_al (ext_al (ext_al hR)))))⟩) (fun hHeld => ?_)
  clear hK K'
  try simp only [Act.put, List.getElem_toArray, List.getElem_cons_succ, List.getElem_cons_zero, List.setIfInBounds_toArray, List.set_cons_zero, List.set_cons_succ]
  clear hW hB hC0 hR
  obtain ⟨hW, hB, C0, hC0, hR⟩ := id hHeld
  refine wpAnyH_ready (rs := [5]) (by kernel_rfl) (by simp) ?_
  refine AllReadyH.cons rfl (fun K' hK => ?_) AllReadyH.nil
  rw [if_pos (by rfl)]
  simp only [List.getElem_toArray, List.getElem_cons_succ, List.getElem_cons_zero]
  go_wp2_with fail
  refine (put44 x0 (i % 256) (i / 256) s 0 0 0 0 o hx _).mono ?_
  rintro r ww ⟨rfl, v2_0, v2_1, rfl⟩
  try go_wp2_with fail
  refine hK.out _ _ (⟨(Below.al (Below.al hW _) _), (ext_al (ext_al hB)), C0, hC0, (ext_al (ext_al hR))⟩) (fun hHeld => ?_)
  clear hK K'
  try simp only [Act.put, List.getElem_toArray, List.getElem_cons_succ, List.getElem_cons_zero, List.setIfInBounds_toArray, List.set_cons_zero, List.set_cons_succ]
  clear hW hB hC0 hR
  obtain ⟨hW, hB, C0, hC0, hR⟩ := id hHeld
  refine wpAnyH_ready (rs := [14]) (by kernel_rfl) (by simp) ?_
  refine AllReadyH.cons rfl (fun K' hK => ?_) AllReadyH.nil
  rw [if_pos (by rfl)]
  simp only [List.getElem_toArray, List.getElem_cons_succ, List.getElem_cons_zero]
  go_wp2_with fail
  refine (HS.out _ hW).mono ?_
  rintro r ww ⟨rfl, v3_0, v3_1, rfl⟩
  try go_wp2_with fail
  refine hK.out _ _ (⟨(Below.al (Below.al hW _) _), (ext_al (ext_al hB)), C0, hC0, (ext_al (ext_al hR))⟩) (fun hHeld => ?_)
  clear hK K'
  try simp only [Act.put, List.getElem_toArray, List.getElem_cons_succ, List.getElem_cons_zero, List.setIfInBounds_toArray, List.set_cons_zero, List.set_cons_succ]
  clear hW hB hC0 hR
  obtain ⟨hW, hB, C0, hC0, hR⟩ := id hHeld
  refine wpAnyH_ready (rs := [15]) (by kernel_rfl) (by simp) ?_
  refine AllReadyH.cons rfl (fun K' hK => ?_) AllReadyH.nil
  rw [if_pos (by rfl)]
  simp only [List.getElem_toArray, List.getElem_cons_succ, List.getElem_cons_zero]
  refine wp_store_by 31 (.tmp 2) (.tmp 9) rfl _ _ rfl rfl (store8 _ _ C0 x0 (i % 256) (i / 256) s (o % 256) (o / 256 % 256) (o / 65536 % 256) (o / 16777216) _ hR hC0) ?_
  refine hK.out _ _ (⟨below_setRow hW (by omega) _, (setRow_other _ _ _ _ (by omega)).trans hB, _, rfl, setRow_heap _ _ _ _ _ _ hR⟩) (fun hHeld => ?_)
  clear hK K'
  try simp only [Act.put, List.getElem_toArray, List.getElem_cons_succ, List.getElem_cons_zero, List.setIfInBounds_toArray, List.set_cons_zero, List.set_cons_succ]
  refine wpAnyH_take (i := 16) (v := (.bool E)) rfl (by kernel_rfl) (by kernel_rfl) (by kernel_rfl) (fun _ _ _ h => h) (Or.inl ⟨by rfl, ?_⟩) (by assumption) ?_
  · intro w9 hSw
    try dsimp only at hSw
    go_simp
    all_goals try decide
    all_goals try assumption
    all_goals try omega
  try simp only [Act.put, List.getElem_toArray, List.getElem_cons_succ, List.getElem_cons_zero, List.setIfInBounds_toArray, List.set_cons_zero, List.set_cons_succ]
  refine wpAnyH_done (by kernel_rfl) ?_ _
  have hc := fun j => cell_of_row _ (w.heap.size + 1) j _ _ _ (setRow_heap _ _ _ (ar8 x0 (i % 256) (i / 256) s (o % 256) (o / 256 % 256) (o / 65536 % 256) (o / 16777216)) _ _ hR)
  have hb := below_setRow hW (Nat.le_succ w.heap.size) (ar8 x0 (i % 256) (i / 256) s (o % 256) (o / 256 % 256) (o / 65536 % 256) (o / 16777216))
  clear hHeld hW hB hC0
  go_wp2_with fail
  refine bodyPost_ret (v := .tuple #[arr8 x0 (i % 256) (i / 256) s (o % 256) (o / 256 % 256) (o / 65536 % 256) (o / 16777216), .bool E]) ?_ rfl ⟨⟨x0, (i % 256), (i / 256), s, (o % 256), (o / 256 % 256), (o / 65536 % 256), (o / 16777216)⟩, E, rfl, ?_, ?_⟩
  · simp [results, Try.results60, go_sem, hc]
  · exact hO.out
  · exact hb
#print axioms rstop_any
end Go.Proofs.Ytgpegnpjkkofaaa
namespace Go.Proofs.Ytgpegnpjkkofaaa
open Go.RowKit

set_option linter.unusedSimpArgs false in
set_option maxHeartbeats 4000000 in
set_option maxRecDepth 100000 in
theorem rsized_any (C : Cm) (ok : C.Ok) (a : Option Addr) (cap : Nat) (w : World) (hr : Row w a C.d.length C.d) :
    Calls Try.prog 61 #[C.v a C.d.length cap] w (QPost w (wSize 192 C)) := by
  have HS : Hid (∀ W, Below w.heap.size w W → Calls Try.prog 18 #[cmV C.k C.i C.s C.z C.n false none 0 0 false false C.c 0 0 0 0 0, cmV C.k C.i C.s C.z C.n C.q a C.d.length cap C.t C.l C.c C.b C.e C.u C.m C.o] W fun r w' => r = .returned (.bool (C.only 135)) ∧ ∃ o1 o2, w' = (W.alloc o1).alloc o2) := fun W hb => by
    have := same_any ⟨C.k, C.i, C.s, C.z, C.n, false, [], false, false, C.c, 0, 0, 0, 0, 0⟩ C none 0 0 a C.d.length cap W (row_nil W) (hr.next hb)
    rw [bare_135] at this
    exact this
  obtain ⟨B4, hB4, lB4, gB4⟩ : ∃ y, bitn C.c 4 = y ∧ 0 ≤ y ∧ y ≤ 4 := ⟨_, rfl, by unfold bitn; split <;> omega, by unfold bitn; split <;> omega⟩
  have KB4 : Hid (∀ W, Calls Try.prog 34 #[.bool C.c, .int .i64 4] W fun e w' => e = .returned (.int .i64 B4) ∧ w' = W) := fun W => hB4 ▸ rbit_any C.c 4 W
  obtain ⟨B2, hB2, lB2, gB2⟩ : ∃ y, bitn C.z 2 = y ∧ 0 ≤ y ∧ y ≤ 2 := ⟨_, rfl, by unfold bitn; split <;> omega, by unfold bitn; split <;> omega⟩
  have KB2 : Hid (∀ W, Calls Try.prog 34 #[.bool C.z, .int .i64 2] W fun e w' => e = .returned (.int .i64 B2) ∧ w' = W) := fun W => hB2 ▸ rbit_any C.z 2 W
  obtain ⟨x0, hx0⟩ : ∃ y, (192 + B4 + B2 : Int) % 256 = y := ⟨_, rfl⟩
  have KP : Hid (∀ W, Calls Try.prog 59 #[.int .i64 (192 + B4 + B2), .agg #[.int .u16 C.i, .int .u8 C.s]] W fun e w' => e = .returned (arr8 x0 (C.i % 256) (C.i / 256) C.s 0 0 0 0) ∧ ∃ o1 o2 o3 o4 o5, w' = ((((W.alloc o1).alloc o2).alloc o3).alloc o4).alloc o5) := fun W => hx0 ▸ placed_any (192 + B4 + B2) C.i C.s ok.i W
  obtain ⟨y4, hy4⟩ : ∃ y, (C.n : Int) % 256 = y := ⟨_, rfl⟩
  obtain ⟨y5, hy5⟩ : ∃ y, (C.n : Int) / 256 % 256 = y := ⟨_, rfl⟩
  obtain ⟨y6, hy6⟩ : ∃ y, (C.n : Int) / 65536 % 256 = y := ⟨_, rfl⟩
  obtain ⟨y7, hy7⟩ : ∃ y, (C.n : Int) / 16777216 = y := ⟨_, rfl⟩
  have KQ : Hid (∀ W, Calls Try.prog 74 #[arr8 x0 (C.i % 256) (C.i / 256) C.s 0 0 0 0, .int .i64 4, .int .i64 4, .int .u32 C.n] W fun e w' => e = .returned (.agg (ar8 x0 (C.i % 256) (C.i / 256) C.s y4 y5 y6 y7)) ∧ ∃ o1 o2, w' = (W.alloc o1).alloc o2) := fun W => by rw [← hy4, ← hy5, ← hy6, ← hy7]; exact put44 _ _ _ _ _ _ _ _ _ ok.n W
  have hO : Hid (wSize 192 C = if C.only 135 && (C.z || C.n == 0) then some ⟨x0, C.i % 256, C.i / 256, C.s, y4, y5, y6, y7⟩ else none) := by
    have e1 : x0 = bits .or .u8 192 (bits .or .u8 (bitv C.c 4) (bitv C.z 2)) := by rw [← hx0, ← hB4, ← hB2]; cases C.c <;> cases C.z <;> decide
    rw [e1, ← hy4, ← hy5, ← hy6, ← hy7]; rfl
  have hi := ok.i
  have hx := ok.n
  clear hB4 hB2 hx0 hy4 hy5 hy6 hy7
  generalize C.only 135 = E at HS hO
  generalize wSize 192 C = O at hO ⊢
  clear hr ok
  generalize C.d.length = len at HS ⊢
  obtain ⟨k, i, s, z, n, q, d, t, l, c, b, e, u, m, o⟩ := C
  dsimp only at HS hO hi hx KB4 KB2 KP KQ ⊢
  cases E
  · go_enter Try.func61, Try.ntmps61
    go_wp2_with fail
    with_reducible refine (HS.out _ (by repeat (first | assumption | exact Below.refl _ _ | apply Below.drew | apply Below.al))).mono ?_
    rintro r ww ⟨rfl, v1, v2, rfl⟩
    go_wp2_with fail
    refine wp_region_held_drew (S := fun x => Below w.heap.size w x ∧ x.heap[w.heap.size]? = some (.cells (cmC k i s z n q a len cap t l c b e u m o) 36 (0, 0)) ∧ ∃ C : Array Value, C.size = 8 ∧ x.heap[w.heap.size + 1]? = some (.cells C 31 (0, 0))) (by kernel_rfl) (⟨(by repeat (first | assumption | exact Below.refl _ _ | apply Below.drew | apply Below.al)), (by repeat (first | assumption | exact heap_at _ _ _ rfl | exact heap_at _ _ _ (by simp) | rw [heap_drew] | rw [Below.heap_alloc _ _ _ (by first | (simp; done) | (simp; omega) | omega)])), _, rfl, (by repeat (first | assumption | exact heap_at _ _ _ rfl | exact heap_at _ _ _ (by simp) | rw [heap_drew] | rw [Below.heap_alloc _ _ _ (by first | (simp; done) | (simp; omega) | omega)]))⟩) (fun hHeld => ?_)
    obtain ⟨hW, hB, C0, hC0, hR⟩ := id hHeld
    refine wpAnyH_take (i := 0) (v := (.pointer (some ⟨w.heap.size, 9, none⟩))) rfl (by kernel_rfl) (by kernel_rfl) (by kernel_rfl) (fun _ _ _ h => h) (Or.inl ⟨by rfl, ?_⟩) (by assumption) ?_
    · intro w9 hSw
      try dsimp only at hSw
      go_simp
      all_goals try decide
      all_goals try assumption
      all_goals try omega
    try simp only [Act.put, List.getElem_toArray, List.getElem_cons_succ, List.getElem_cons_zero, List.setIfInBounds_toArray, List.set_cons_zero, List.set_cons_succ]
    refine wpAnyH_take (i := 1) (v := (.bool c)) rfl (by kernel_rfl) (by kernel_rfl) (by kernel_rfl) (fun _ _ _ h => h) (Or.inl ⟨by rfl, ?_⟩) (by assumption) ?_
    · intro w9 hSw
      try dsimp only at hSw
      exact ex_load 4 (.tmp 27) rfl _ _ rfl (ld_4 _ _ _ _ (by rw [cell_of_row _ _ 9 _ _ _ hSw.2.1]; rfl))
    try simp only [Act.put, List.getElem_toArray, List.getElem_cons_succ, List.getElem_cons_zero, List.setIfInBounds_toArray, List.set_cons_zero, List.set_cons_succ]
    refine wpAnyH_take (i := 4) (v := (.pointer (some ⟨w.heap.size, 3, none⟩))) rfl (by kernel_rfl) (by kernel_rfl) (by kernel_rfl) (fun _ _ _ h => h) (Or.inl ⟨by rfl, ?_⟩) (by assumption) ?_
    · intro w9 hSw
      try dsimp only at hSw
      go_simp
      all_goals try decide
      all_goals try assumption
      all_goals try omega
    try simp only [Act.put, List.getElem_toArray, List.getElem_cons_succ, List.getElem_cons_zero, List.setIfInBounds_toArray, List.set_cons_zero, List.set_cons_succ]
    refine wpAnyH_take (i := 5) (v := (.bool z)) rfl (by kernel_rfl) (by kernel_rfl) (by kernel_rfl) (fun _ _ _ h => h) (Or.inl ⟨by rfl, ?_⟩) (by assumption) ?_
    · intro w9 hSw
      try dsimp only at hSw
      exact ex_load 4 (.tmp 31) rfl _ _ rfl (ld_4 _ _ _ _ (by rw [cell_of_row _ _ 3 _ _ _ hSw.2.1]; rfl))
    try simp only [Act.put, List.getElem_toArray, List.getElem_cons_succ, List.getElem_cons_zero, List.setIfInBounds_toArray, List.set_cons_zero, List.set_cons_succ]
    refine wpAnyH_take (i := 8) (v := (.pointer (some ⟨w.heap.size, 1, none⟩))) rfl (by kernel_rfl) (by kernel_rfl) (by kernel_rfl) (fun _ _ _ h => h) (Or.inl ⟨by rfl, ?_⟩) (by assumption) ?_
    · intro w9 hSw
      try dsimp only at hSw
      go_simp
      all_goals try decide
      all_goals try assumption
      all_goals try omega
    try simp only [Act.put, List.getElem_toArray, List.getElem_cons_succ, List.getElem_cons_zero, List.setIfInBounds_toArray, List.set_cons_zero, List.set_cons_succ]
    refine wpAnyH_take (i := 9) (v := (.agg #[.int .u16 i, .int .u8 s])) rfl (by kernel_rfl) (by kernel_rfl) (by kernel_rfl) (fun _ _ _ h => h) (Or.inl ⟨by rfl, ?_⟩) (by assumption) ?_
    · intro w9 hSw
      try dsimp only at hSw
      exact ex_load 24 (.tmp 35) rfl _ _ rfl (ldPl _ _ _ _ (by rw [cell_of_row _ _ 1 _ _ _ hSw.2.1]; rfl) (by rw [cell_of_row _ _ 2 _ _ _ hSw.2.1]; rfl))
    try simp only [Act.put, List.getElem_toArray, List.getElem_cons_succ, List.getElem_cons_zero, List.setIfInBounds_toArray, List.set_cons_zero, List.set_cons_succ]
    refine wpAnyH_take (i := 11) (v := (.pointer (some ⟨w.heap.size, 4, none⟩))) rfl (by kernel_rfl) (by kernel_rfl) (by kernel_rfl) (fun _ _ _ h => h) (Or.inl ⟨by rfl, ?_⟩) (by assumption) ?_
    · intro w9 hSw
      try dsimp only at hSw
      go_simp
      all_goals try decide
      all_goals try assumption
      all_goals try omega
    try simp only [Act.put, List.getElem_toArray, List.getElem_cons_succ, List.getElem_cons_zero, List.setIfInBounds_toArray, List.set_cons_zero, List.set_cons_succ]
    refine wpAnyH_take (i := 12) (v := (.int .u32 n)) rfl (by kernel_rfl) (by kernel_rfl) (by kernel_rfl) (fun _ _ _ h => h) (Or.inl ⟨by rfl, ?_⟩) (by assumption) ?_
    · intro w9 hSw
      try dsimp only at hSw
      exact ex_load 25 (.tmp 38) rfl _ _ rfl (ld_25 _ _ _ _ (by rw [cell_of_row _ _ 4 _ _ _ hSw.2.1]; rfl))
    try simp only [Act.put, List.getElem_toArray, List.getElem_cons_succ, List.getElem_cons_zero, List.setIfInBounds_toArray, List.set_cons_zero, List.set_cons_succ]
    refine wpAnyH_take (i := 14) (v := (.bool false)) rfl (by kernel_rfl) (by kernel_rfl) (by kernel_rfl) (fun _ _ _ h => h) (Or.inl ⟨by rfl, ?_⟩) (by assumption) ?_
    · intro w9 hSw
      try dsimp only at hSw
      go_simp
      all_goals try decide
      all_goals try assumption
      all_goals try omega
    try simp only [Act.put, List.getElem_toArray, List.getElem_cons_succ, List.getElem_cons_zero, List.setIfInBounds_toArray, List.set_cons_zero, List.set_cons_succ]
    refine wpAnyH_ready (rs := [2]) (by kernel_rfl) (by simp) ?_
    refine AllReadyH.cons rfl (fun K' hK => ?_) AllReadyH.nil
    rw [if_pos (by rfl)]
    simp only [List.getElem_toArray, List.getElem_cons_succ, List.getElem_cons_zero]
    go_wp2_with fail
    refine (KB4.out _).mono ?_
    rintro r ww ⟨rfl, rfl⟩
    try go_wp2_with fail
    refine hK.out _ _ (⟨hW, hB, C0, hC0, hR⟩) (fun hHeld => ?_)
    clear hK K'
    try simp only [Act.put, List.getElem_toArray, List.getElem_cons_succ, List.getElem_cons_zero, List.setIfInBounds_toArray, List.set_cons_zero, List.set_cons_succ]
    clear hW hB hC0 hR
    obtain ⟨hW, hB, C0, hC0, hR⟩ := id hHeld
    refine wpAnyH_take (i := 3) (v := (.int .i64 (192 + B4))) rfl (by kernel_rfl) (by kernel_rfl) (by kernel_rfl) (fun _ _ _ h => h) (Or.inl ⟨by rfl, ?_⟩) (by assumption) ?_
    · intro w9 hSw
      try dsimp only at hSw
      go_simp
      all_goals try (rw [wrapI64 _ (by omega) (by omega)])
      all_goals try decide
      all_goals try omega
    try simp only [Act.put, List.getElem_toArray, List.getElem_cons_succ, List.getElem_cons_zero, List.setIfInBounds_toArray, List.set_cons_zero, List.set_cons_succ]
    refine wpAnyH_ready (rs := [6]) (by kernel_rfl) (by simp) ?_
    refine AllReadyH.cons rfl (fun K' hK => ?_) AllReadyH.nil
    rw [if_pos (by rfl)]
    simp only [List.getElem_toArray, List.getElem_cons_succ, List.getElem_cons_zero]
    go_wp2_with fail
    refine (KB2.out _).mono ?_
    rintro r ww ⟨rfl, rfl⟩
    try go_wp2_with fail
    refine hK.out _ _ (⟨hW, hB, C0, hC0, hR⟩) (fun hHeld => ?_)
    clear hK K'
    try simp only [Act.put, List.getElem_toArray, List.getElem_cons_succ, List.getElem_cons_zero, List.setIfInBounds_toArray, List.set_cons_zero, List.set_cons_succ]
    clear hW hB hC0 hR
    obtain ⟨hW, hB, C0, hC0, hR⟩ := id hHeld
    refine wpAnyH_take (i := 7) (v := (.int .i64 (192 + B4 + B2))) rfl (by kernel_rfl) (by kernel_rfl) (by kernel_rfl) (fun _ _ _ h => h) (Or.inl ⟨by rfl, ?_⟩) (by assumption) ?_
    · intro w9 hSw
      try dsimp only at hSw
      go_simp
      all_goals try (rw [wrapI64 _ (by omega) (by omega)])
      all_goals try decide
      all_goals try omega
    try simp only [Act.put, List.getElem_toArray, List.getElem_cons_succ, List.getElem_cons_zero, List.setIfInBounds_toArray, List.set_cons_zero, List.set_cons_succ]
    refine wpAnyH_ready (rs := [10]) (by kernel_rfl) (by simp) ?_
    refine AllReadyH.cons rfl (fun K' hK => ?_) AllReadyH.nil
    rw [if_pos (by rfl)]
    simp only [List.getElem_toArray, List.getElem_cons_succ, List.getElem_cons_zero]
    go_wp2_with fail
    refine (KP.out _).mono ?_
    rintro r ww ⟨rfl, v4_0, v4_1, v4_2, v4_3, v4_4, rfl⟩
    try go_wp2_with fail
    refine hK.out _ _ (⟨(Below.al (Below.al (Below.al (Below.al (Below.al hW _) _) _) _) _), (ext_al (ext_al (ext_al (ext_al (ext_al hB))))), C0, hC0, (ext_al (ext_al (ext_al (ext_al (ext_al hR)))))⟩) (fun hHeld => ?_)
    clear hK K'
    try simp only [Act.put, List.getElem_toArray, List.getElem_cons_succ, List.getElem_cons_zero, List.setIfInBounds_toArray, List.set_cons_zero, List.set_cons_succ]
    clear hW hB hC0 hR
    obtain ⟨hW, hB, C0, hC0, hR⟩ := id hHeld
    refine wpAnyH_ready (rs := [13]) (by kernel_rfl) (by simp) ?_
    refine AllReadyH.cons rfl (fun K' hK => ?_) AllReadyH.nil
    rw [if_pos (by rfl)]
    simp only [List.getElem_toArray, List.getElem_cons_succ, List.getElem_cons_zero]
    go_wp2_with fail
    refine (KQ.out _).mono ?_
    rintro r ww ⟨rfl, v5_0, v5_1, rfl⟩
    try go_wp2_with fail
    refine hK.out _ _ (⟨(Below.al (Below.al hW _) _), (ext_al (ext_al hB)), C0, hC0, (ext_al (ext_al hR))⟩) (fun hHeld => ?_)
    clear hK K'
    try simp only [Act.put, List.getElem_toArray, List.getElem_cons_succ, List.getElem_cons_zero, List.setIfInBounds_toArray, List.set_cons_zero, List.set_cons_succ]
    clear hW hB hC0 hR
    obtain ⟨hW, hB, C0, hC0, hR⟩ := id hHeld
    refine wpAnyH_ready (rs := [15]) (by kernel_rfl) (by simp) ?_
    refine AllReadyH.cons rfl (fun K' hK => ?_) AllReadyH.nil
    rw [if_pos (by rfl)]
    simp only [List.getElem_toArray, List.getElem_cons_succ, List.getElem_cons_zero]
    refine wp_store_by 31 (.tmp 2) (.tmp 40) rfl _ _ rfl rfl (store8 _ _ C0 x0 (i % 256) (i / 256) s y4 y5 y6 y7 _ hR hC0) ?_
    refine hK.out _ _ (⟨below_setRow hW (by omega) _, (setRow_other _ _ _ _ (by omega)).trans hB, _, rfl, setRow_heap _ _ _ _ _ _ hR⟩) (fun hHeld => ?_)
    clear hK K'
    try simp only [Act.put, List.getElem_toArray, List.getElem_cons_succ, List.getElem_cons_zero, List.setIfInBounds_toArray, List.set_cons_zero, List.set_cons_succ]
    refine wpAnyH_take (i := 16) (v := (.bool false)) rfl (by kernel_rfl) (by kernel_rfl) (by kernel_rfl) (fun _ _ _ h => h) (Or.inl ⟨by rfl, ?_⟩) (by assumption) ?_
    · intro w9 hSw
      try dsimp only at hSw
      go_simp
      all_goals try decide
      all_goals try assumption
      all_goals try omega
    try simp only [Act.put, List.getElem_toArray, List.getElem_cons_succ, List.getElem_cons_zero, List.setIfInBounds_toArray, List.set_cons_zero, List.set_cons_succ]
    refine wpAnyH_done (by kernel_rfl) ?_ _
    have hc := fun j => cell_of_row _ (w.heap.size + 1) j _ _ _ (setRow_heap _ _ _ (ar8 x0 (i % 256) (i / 256) s y4 y5 y6 y7) _ _ hR)
    have hb := below_setRow hW (Nat.le_succ w.heap.size) (ar8 x0 (i % 256) (i / 256) s y4 y5 y6 y7)
    clear hHeld hW hB hC0
    go_wp2_with fail
    refine bodyPost_ret (v := .tuple #[arr8 x0 (i % 256) (i / 256) s y4 y5 y6 y7, .bool false]) ?_ rfl ⟨⟨x0, (i % 256), (i / 256), s, y4, y5, y6, y7⟩, false, rfl, ?_, ?_⟩
    · simp [results, Try.results61, go_sem, hc]
    · exact hO.out
    · exact hb
  cases z
  · by_cases h0 : n = 0
    · subst h0
      go_enter Try.func61, Try.ntmps61
      go_wp2_with fail
      with_reducible refine (HS.out _ (by repeat (first | assumption | exact Below.refl _ _ | apply Below.drew | apply Below.al))).mono ?_
      rintro r ww ⟨rfl, v1, v2, rfl⟩
      go_wp2_with fail
      refine wp_region_held_drew (S := fun x => Below w.heap.size w x ∧ x.heap[w.heap.size]? = some (.cells (cmC k i s false 0 q a len cap t l c b e u m o) 36 (0, 0)) ∧ ∃ C : Array Value, C.size = 8 ∧ x.heap[w.heap.size + 1]? = some (.cells C 31 (0, 0))) (by kernel_rfl) (⟨(by repeat (first | assumption | exact Below.refl _ _ | apply Below.drew | apply Below.al)), (by repeat (first | assumption | exact heap_at _ _ _ rfl | exact heap_at _ _ _ (by simp) | rw [heap_drew] | rw [Below.heap_alloc _ _ _ (by first | (simp; done) | (simp; omega) | omega)])), _, rfl, (by repeat (first | assumption | exact heap_at _ _ _ rfl | exact heap_at _ _ _ (by simp) | rw [heap_drew] | rw [Below.heap_alloc _ _ _ (by first | (simp; done) | (simp; omega) | omega)]))⟩) (fun hHeld => ?_)
      obtain ⟨hW, hB, C0, hC0, hR⟩ := id hHeld
      refine wpAnyH_take (i := 0) (v := (.pointer (some ⟨w.heap.size, 9, none⟩))) rfl (by kernel_rfl) (by kernel_rfl) (by kernel_rfl) (fun _ _ _ h => h) (Or.inl ⟨by rfl, ?_⟩) (by assumption) ?_
      · intro w9 hSw
        try dsimp only at hSw
        go_simp
        all_goals try decide
        all_goals try assumption
        all_goals try omega
      try simp only [Act.put, List.getElem_toArray, List.getElem_cons_succ, List.getElem_cons_zero, List.setIfInBounds_toArray, List.set_cons_zero, List.set_cons_succ]
      refine wpAnyH_take (i := 1) (v := (.bool c)) rfl (by kernel_rfl) (by kernel_rfl) (by kernel_rfl) (fun _ _ _ h => h) (Or.inl ⟨by rfl, ?_⟩) (by assumption) ?_
      · intro w9 hSw
        try dsimp only at hSw
        exact ex_load 4 (.tmp 27) rfl _ _ rfl (ld_4 _ _ _ _ (by rw [cell_of_row _ _ 9 _ _ _ hSw.2.1]; rfl))
      try simp only [Act.put, List.getElem_toArray, List.getElem_cons_succ, List.getElem_cons_zero, List.setIfInBounds_toArray, List.set_cons_zero, List.set_cons_succ]
      refine wpAnyH_take (i := 4) (v := (.pointer (some ⟨w.heap.size, 3, none⟩))) rfl (by kernel_rfl) (by kernel_rfl) (by kernel_rfl) (fun _ _ _ h => h) (Or.inl ⟨by rfl, ?_⟩) (by assumption) ?_
      · intro w9 hSw
        try dsimp only at hSw
        go_simp
        all_goals try decide
        all_goals try assumption
        all_goals try omega
      try simp only [Act.put, List.getElem_toArray, List.getElem_cons_succ, List.getElem_cons_zero, List.setIfInBounds_toArray, List.set_cons_zero, List.set_cons_succ]
      refine wpAnyH_take (i := 5) (v := (.bool false)) rfl (by kernel_rfl) (by kernel_rfl) (by kernel_rfl) (fun _ _ _ h => h) (Or.inl ⟨by rfl, ?_⟩) (by assumption) ?_
      · intro w9 hSw
        try dsimp only at hSw
        exact ex_load 4 (.tmp 31) rfl _ _ rfl (ld_4 _ _ _ _ (by rw [cell_of_row _ _ 3 _ _ _ hSw.2.1]; rfl))
      try simp only [Act.put, List.getElem_toArray, List.getElem_cons_succ, List.getElem_cons_zero, List.setIfInBounds_toArray, List.set_cons_zero, List.set_cons_succ]
      refine wpAnyH_take (i := 8) (v := (.pointer (some ⟨w.heap.size, 1, none⟩))) rfl (by kernel_rfl) (by kernel_rfl) (by kernel_rfl) (fun _ _ _ h => h) (Or.inl ⟨by rfl, ?_⟩) (by assumption) ?_
      · intro w9 hSw
        try dsimp only at hSw
        go_simp
        all_goals try decide
        all_goals try assumption
        all_goals try omega
      try simp only [Act.put, List.getElem_toArray, List.getElem_cons_succ, List.getElem_cons_zero, List.setIfInBounds_toArray, List.set_cons_zero, List.set_cons_succ]
      refine wpAnyH_take (i := 9) (v := (.agg #[.int .u16 i, .int .u8 s])) rfl (by kernel_rfl) (by kernel_rfl) (by kernel_rfl) (fun _ _ _ h => h) (Or.inl ⟨by rfl, ?_⟩) (by assumption) ?_
      · intro w9 hSw
        try dsimp only at hSw
        exact ex_load 24 (.tmp 35) rfl _ _ rfl (ldPl _ _ _ _ (by rw [cell_of_row _ _ 1 _ _ _ hSw.2.1]; rfl) (by rw [cell_of_row _ _ 2 _ _ _ hSw.2.1]; rfl))
      try simp only [Act.put, List.getElem_toArray, List.getElem_cons_succ, List.getElem_cons_zero, List.setIfInBounds_toArray, List.set_cons_zero, List.set_cons_succ]
      refine wpAnyH_take (i := 11) (v := (.pointer (some ⟨w.heap.size, 4, none⟩))) rfl (by kernel_rfl) (by kernel_rfl) (by kernel_rfl) (fun _ _ _ h => h) (Or.inl ⟨by rfl, ?_⟩) (by assumption) ?_
      · intro w9 hSw
        try dsimp only at hSw
        go_simp
        all_goals try decide
        all_goals try assumption
        all_goals try omega
      try simp only [Act.put, List.getElem_toArray, List.getElem_cons_succ, List.getElem_cons_zero, List.setIfInBounds_toArray, List.set_cons_zero, List.set_cons_succ]
      refine wpAnyH_take (i := 12) (v := (.int .u32 0)) rfl (by kernel_rfl) (by kernel_rfl) (by kernel_rfl) (fun _ _ _ h => h) (Or.inl ⟨by rfl, ?_⟩) (by assumption) ?_
      · intro w9 hSw
        try dsimp only at hSw
        exact ex_load 25 (.tmp 38) rfl _ _ rfl (ld_25 _ _ _ _ (by rw [cell_of_row _ _ 4 _ _ _ hSw.2.1]; rfl))
      try simp only [Act.put, List.getElem_toArray, List.getElem_cons_succ, List.getElem_cons_zero, List.setIfInBounds_toArray, List.set_cons_zero, List.set_cons_succ]
      refine wpAnyH_take (i := 14) (v := (.bool true)) rfl (by kernel_rfl) (by kernel_rfl) (by kernel_rfl) (fun _ _ _ h => h) (Or.inl ⟨by rfl, ?_⟩) (by assumption) ?_
      · intro w9 hSw
        try dsimp only at hSw
        go_simp
        all_goals try decide
        all_goals try assumption
        all_goals try omega
      try simp only [Act.put, List.getElem_toArray, List.getElem_cons_succ, List.getElem_cons_zero, List.setIfInBounds_toArray, List.set_cons_zero, List.set_cons_succ]
      refine wpAnyH_ready (rs := [2]) (by kernel_rfl) (by simp) ?_
      refine AllReadyH.cons rfl (fun K' hK => ?_) AllReadyH.nil
      rw [if_pos (by rfl)]
      simp only [List.getElem_toArray, List.getElem_cons_succ, List.getElem_cons_zero]
      go_wp2_with fail
      refine (KB4.out _).mono ?_
      rintro r ww ⟨rfl, rfl⟩
      try go_wp2_with fail
      refine hK.out _ _ (⟨hW, hB, C0, hC0, hR⟩) (fun hHeld => ?_)
      clear hK K'
      try simp only [Act.put, List.getElem_toArray, List.getElem_cons_succ, List.getElem_cons_zero, List.setIfInBounds_toArray, List.set_cons_zero, List.set_cons_succ]
      clear hW hB hC0 hR
      obtain ⟨hW, hB, C0, hC0, hR⟩ := id hHeld
      refine wpAnyH_take (i := 3) (v := (.int .i64 (192 + B4))) rfl (by kernel_rfl) (by kernel_rfl) (by kernel_rfl) (fun _ _ _ h => h) (Or.inl ⟨by rfl, ?_⟩) (by assumption) ?_
      · intro w9 hSw
        try dsimp only at hSw
        go_simp
        all_goals try (rw [wrapI64 _ (by omega) (by omega)])
        all_goals try decide
        all_goals try omega
      try simp only [Act.put, List.getElem_toArray, List.getElem_cons_succ, List.getElem_cons_zero, List.setIfInBounds_toArray, List.set_cons_zero, List.set_cons_succ]
      refine wpAnyH_ready (rs := [6]) (by kernel_rfl) (by simp) ?_
      refine AllReadyH.cons rfl (fun K' hK => ?_) AllReadyH.nil
      rw [if_pos (by rfl)]
      simp only [List.getElem_toArray, List.getElem_cons_succ, List.getElem_cons_zero]
      go_wp2_with fail
      refine (KB2.out _).mono ?_
      rintro r ww ⟨rfl, rfl⟩
      try go_wp2_with fail
      refine hK.out _ _ (⟨hW, hB, C0, hC0, hR⟩) (fun hHeld => ?_)
      clear hK K'
      try simp only [Act.put, List.getElem_toArray, List.getElem_cons_succ, List.getElem_cons_zero, List.setIfInBounds_toArray, List.set_cons_zero, List.set_cons_succ]
      clear hW hB hC0 hR
      obtain ⟨hW, hB, C0, hC0, hR⟩ := id hHeld
      refine wpAnyH_take (i := 7) (v := (.int .i64 (192 + B4 + B2))) rfl (by kernel_rfl) (by kernel_rfl) (by kernel_rfl) (fun _ _ _ h => h) (Or.inl ⟨by rfl, ?_⟩) (by assumption) ?_
      · intro w9 hSw
        try dsimp only at hSw
        go_simp
        all_goals try (rw [wrapI64 _ (by omega) (by omega)])
        all_goals try decide
        all_goals try omega
      try simp only [Act.put, List.getElem_toArray, List.getElem_cons_succ, List.getElem_cons_zero, List.setIfInBounds_toArray, List.set_cons_zero, List.set_cons_succ]
      refine wpAnyH_ready (rs := [10]) (by kernel_rfl) (by simp) ?_
      refine AllReadyH.cons rfl (fun K' hK => ?_) AllReadyH.nil
      rw [if_pos (by rfl)]
      simp only [List.getElem_toArray, List.getElem_cons_succ, List.getElem_cons_zero]
      go_wp2_with fail
      refine (KP.out _).mono ?_
      rintro r ww ⟨rfl, v6_0, v6_1, v6_2, v6_3, v6_4, rfl⟩
      try go_wp2_with fail
      refine hK.out _ _ (⟨(Below.al (Below.al (Below.al (Below.al (Below.al hW _) _) _) _) _), (ext_al (ext_al (ext_al (ext_al (ext_al hB))))), C0, hC0, (ext_al (ext_al (ext_al (ext_al (ext_al hR)))))⟩) (fun hHeld => ?_)
      clear hK K'
      try simp only [Act.put, List.getElem_toArray, List.getElem_cons_succ, List.getElem_cons_zero, List.setIfInBounds_toArray, List.set_cons_zero, List.set_cons_succ]
      clear hW hB hC0 hR
      obtain ⟨hW, hB, C0, hC0, hR⟩ := id hHeld
      refine wpAnyH_ready (rs := [13]) (by kernel_rfl) (by simp) ?_
      refine AllReadyH.cons rfl (fun K' hK => ?_) AllReadyH.nil
      rw [if_pos (by rfl)]
      simp only [List.getElem_toArray, List.getElem_cons_succ, List.getElem_cons_zero]
      go_wp2_with fail
      refine (KQ.out _).mono ?_
      rintro r ww ⟨rfl, v7_0, v7_1, rfl⟩
      try go_wp2_with fail
      refine hK.out _ _ (⟨(Below.al (Below.al hW _) _), (ext_al (ext_al hB)), C0, hC0, (ext_al (ext_al hR))⟩) (fun hHeld => ?_)
      clear hK K'
      try simp only [Act.put, List.getElem_toArray, List.getElem_cons_succ, List.getElem_cons_zero, List.setIfInBounds_toArray, List.set_cons_zero, List.set_cons_succ]
      clear hW hB hC0 hR
      obtain ⟨hW, hB, C0, hC0, hR⟩ := id hHeld
      refine wpAnyH_ready (rs := [15]) (by kernel_rfl) (by simp) ?_
      refine AllReadyH.cons rfl (fun K' hK => ?_) AllReadyH.nil
      rw [if_pos (by rfl)]
      simp only [List.getElem_toArray, List.getElem_cons_succ, List.getElem_cons_zero]
      refine wp_store_by 31 (.tmp 2) (.tmp 40) rfl _ _ rfl rfl (store8 _ _ C0 x0 (i % 256) (i / 256) s y4 y5 y6 y7 _ hR hC0) ?_
      refine hK.out _ _ (⟨below_setRow hW (by omega) _, (setRow_other _ _ _ _ (by omega)).trans hB, _, rfl, setRow_heap _ _ _ _ _ _ hR⟩) (fun hHeld => ?_)
      clear hK K'
      try simp only [Act.put, List.getElem_toArray, List.getElem_cons_succ, List.getElem_cons_zero, List.setIfInBounds_toArray, List.set_cons_zero, List.set_cons_succ]
      refine wpAnyH_take (i := 16) (v := (.bool true)) rfl (by kernel_rfl) (by kernel_rfl) (by kernel_rfl) (fun _ _ _ h => h) (Or.inl ⟨by rfl, ?_⟩) (by assumption) ?_
      · intro w9 hSw
        try dsimp only at hSw
        go_simp
        all_goals try decide
        all_goals try assumption
        all_goals try omega
      try simp only [Act.put, List.getElem_toArray, List.getElem_cons_succ, List.getElem_cons_zero, List.setIfInBounds_toArray, List.set_cons_zero, List.set_cons_succ]
      refine wpAnyH_done (by kernel_rfl) ?_ _
      have hc := fun j => cell_of_row _ (w.heap.size + 1) j _ _ _ (setRow_heap _ _ _ (ar8 x0 (i % 256) (i / 256) s y4 y5 y6 y7) _ _ hR)
      have hb := below_setRow hW (Nat.le_succ w.heap.size) (ar8 x0 (i % 256) (i / 256) s y4 y5 y6 y7)
      clear hHeld hW hB hC0
      go_wp2_with fail
      refine bodyPost_ret (v := .tuple #[arr8 x0 (i % 256) (i / 256) s y4 y5 y6 y7, .bool true]) ?_ rfl ⟨⟨x0, (i % 256), (i / 256), s, y4, y5, y6, y7⟩, true, rfl, ?_, ?_⟩
      · simp [results, Try.results61, go_sem, hc]
      · exact hO.out
      · exact hb
    · have hn0 : (n == 0) = false := by simpa using h0
      rw [hn0] at hO
      go_enter Try.func61, Try.ntmps61
      go_wp2_with fail
      with_reducible refine (HS.out _ (by repeat (first | assumption | exact Below.refl _ _ | apply Below.drew | apply Below.al))).mono ?_
      rintro r ww ⟨rfl, v1, v2, rfl⟩
      go_wp2_with fail
      refine wp_region_held_drew (S := fun x => Below w.heap.size w x ∧ x.heap[w.heap.size]? = some (.cells (cmC k i s false n q a len cap t l c b e u m o) 36 (0, 0)) ∧ ∃ C : Array Value, C.size = 8 ∧ x.heap[w.heap.size + 1]? = some (.cells C 31 (0, 0))) (by kernel_rfl) (⟨(by repeat (first | assumption | exact Below.refl _ _ | apply Below.drew | apply Below.al)), (by repeat (first | assumption | exact heap_at _ _ _ rfl | exact heap_at _ _ _ (by simp) | rw [heap_drew] | rw [Below.heap_alloc _ _ _ (by first | (simp; done) | (simp; omega) | omega)])), _, rfl, (by repeat (first | assumption | exact heap_at _ _ _ rfl | exact heap_at _ _ _ (by simp) | rw [heap_drew] | rw [Below.heap_alloc _ _ _ (by first | (simp; done) | (simp; omega) | omega)]))⟩) (fun hHeld => ?_)
      obtain ⟨hW, hB, C0, hC0, hR⟩ := id hHeld
      refine wpAnyH_take (i := 0) (v := (.pointer (some ⟨w.heap.size, 9, none⟩))) rfl (by kernel_rfl) (by kernel_rfl) (by kernel_rfl) (fun _ _ _ h => h) (Or.inl ⟨by rfl, ?_⟩) (by assumption) ?_
      · intro w9 hSw
        try dsimp only at hSw
        go_simp
        all_goals try decide
        all_goals try assumption
        all_goals try omega
      try simp only [Act.put, List.getElem_toArray, List.getElem_cons_succ, List.getElem_cons_zero, List.setIfInBounds_toArray, List.set_cons_zero, List.set_cons_succ]
      refine wpAnyH_take (i := 1) (v := (.bool c)) rfl (by kernel_rfl) (by kernel_rfl) (by kernel_rfl) (fun _ _ _ h => h) (Or.inl ⟨by rfl, ?_⟩) (by assumption) ?_
      · intro w9 hSw
        try dsimp only at hSw
        exact ex_load 4 (.tmp 27) rfl _ _ rfl (ld_4 _ _ _ _ (by rw [cell_of_row _ _ 9 _ _ _ hSw.2.1]; rfl))
      try simp only [Act.put, List.getElem_toArray, List.getElem_cons_succ, List.getElem_cons_zero, List.setIfInBounds_toArray, List.set_cons_zero, List.set_cons_succ]
      refine wpAnyH_take (i := 4) (v := (.pointer (some ⟨w.heap.size, 3, none⟩))) rfl (by kernel_rfl) (by kernel_rfl) (by kernel_rfl) (fun _ _ _ h => h) (Or.inl ⟨by rfl, ?_⟩) (by assumption) ?_
      · intro w9 hSw
        try dsimp only at hSw
        go_simp
        all_goals try decide
        all_goals try assumption
        all_goals try omega
      try simp only [Act.put, List.getElem_toArray, List.getElem_cons_succ, List.getElem_cons_zero, List.setIfInBounds_toArray, List.set_cons_zero, List.set_cons_succ]
      refine wpAnyH_take (i := 5) (v := (.bool false)) rfl (by kernel_rfl) (by kernel_rfl) (by kernel_rfl) (fun _ _ _ h => h) (Or.inl ⟨by rfl, ?_⟩) (by assumption) ?_
      · intro w9 hSw
        try dsimp only at hSw
        exact ex_load 4 (.tmp 31) rfl _ _ rfl (ld_4 _ _ _ _ (by rw [cell_of_row _ _ 3 _ _ _ hSw.2.1]; rfl))
      try simp only [Act.put, List.getElem_toArray, List.getElem_cons_succ, List.getElem_cons_zero, List.setIfInBounds_toArray, List.set_cons_zero, List.set_cons_succ]
      refine wpAnyH_take (i := 8) (v := (.pointer (some ⟨w.heap.size, 1, none⟩))) rfl (by kernel_rfl) (by kernel_rfl) (by kernel_rfl) (fun _ _ _ h => h) (Or.inl ⟨by rfl, ?_⟩) (by assumption) ?_
      · intro w9 hSw
        try dsimp only at hSw
        go_simp
        all_goals try decide
        all_goals try assumption
        all_goals try omega
      try simp only [Act.put, List.getElem_toArray, List.getElem_cons_succ, List.getElem_cons_zero, List.setIfInBounds_toArray, List.set_cons_zero, List.set_cons_succ]
      refine wpAnyH_take (i := 9) (v := (.agg #[.int .u16 i, .int .u8 s])) rfl (by kernel_rfl) (by kernel_rfl) (by kernel_rfl) (fun _ _ _ h => h) (Or.inl ⟨by rfl, ?_⟩) (by assumption) ?_
      · intro w9 hSw
        try dsimp only at hSw
        exact ex_load 24 (.tmp 35) rfl _ _ rfl (ldPl _ _ _ _ (by rw [cell_of_row _ _ 1 _ _ _ hSw.2.1]; rfl) (by rw [cell_of_row _ _ 2 _ _ _ hSw.2.1]; rfl))
      try simp only [Act.put, List.getElem_toArray, List.getElem_cons_succ, List.getElem_cons_zero, List.setIfInBounds_toArray, List.set_cons_zero, List.set_cons_succ]
      refine wpAnyH_take (i := 11) (v := (.pointer (some ⟨w.heap.size, 4, none⟩))) rfl (by kernel_rfl) (by kernel_rfl) (by kernel_rfl) (fun _ _ _ h => h) (Or.inl ⟨by rfl, ?_⟩) (by assumption) ?_
      · intro w9 hSw
        try dsimp only at hSw
        go_simp
        all_goals try decide
        all_goals try assumption
        all_goals try omega
      try simp only [Act.put, List.getElem_toArray, List.getElem_cons_succ, List.getElem_cons_zero, List.setIfInBounds_toArray, List.set_cons_zero, List.set_cons_succ]
      refine wpAnyH_take (i := 12) (v := (.int .u32 n)) rfl (by kernel_rfl) (by kernel_rfl) (by kernel_rfl) (fun _ _ _ h => h) (Or.inl ⟨by rfl, ?_⟩) (by assumption) ?_
      · intro w9 hSw
        try dsimp only at hSw
        exact ex_load 25 (.tmp 38) rfl _ _ rfl (ld_25 _ _ _ _ (by rw [cell_of_row _ _ 4 _ _ _ hSw.2.1]; rfl))
      try simp only [Act.put, List.getElem_toArray, List.getElem_cons_succ, List.getElem_cons_zero, List.setIfInBounds_toArray, List.set_cons_zero, List.set_cons_succ]
      refine wpAnyH_take (i := 14) (v := (.bool false)) rfl (by kernel_rfl) (by kernel_rfl) (by kernel_rfl) (fun _ _ _ h => h) (Or.inl ⟨by rfl, ?_⟩) (by assumption) ?_
      · intro w9 hSw
        try dsimp only at hSw
        go_simp
        all_goals try decide
        all_goals try assumption
        all_goals try omega
      try simp only [Act.put, List.getElem_toArray, List.getElem_cons_succ, List.getElem_cons_zero, List.setIfInBounds_toArray, List.set_cons_zero, List.set_cons_succ]
      refine wpAnyH_ready (rs := [2]) (by kernel_rfl) (by simp) ?_
      refine AllReadyH.cons rfl (fun K' hK => ?_) AllReadyH.nil
      rw [if_pos (by rfl)]
      simp only [List.getElem_toArray, List.getElem_cons_succ, List.getElem_cons_zero]
      go_wp2_with fail
      refine (KB4.out _).mono ?_
      rintro r ww ⟨rfl, rfl⟩
      try go_wp2_with fail
      refine hK.out _ _ (⟨hW, hB, C0, hC0, hR⟩) (fun hHeld => ?_)
      clear hK K'
      try simp only [Act.put, List.getElem_toArray, List.getElem_cons_succ, List.getElem_cons_zero, List.setIfInBounds_toArray, List.set_cons_zero, List.set_cons_succ]
      clear hW hB hC0 hR
      obtain ⟨hW, hB, C0, hC0, hR⟩ := id hHeld
      refine wpAnyH_take (i := 3) (v := (.int .i64 (192 + B4))) rfl (by kernel_rfl) (by kernel_rfl) (by kernel_rfl) (fun _ _ _ h => h) (Or.inl ⟨by rfl, ?_⟩) (by assumption) ?_
      · intro w9 hSw
        try dsimp only at hSw
        go_simp
        all_goals try (rw [wrapI64 _ (by omega) (by omega)])
        all_goals try decide
        all_goals try omega
      try simp only [Act.put, List.getElem_toArray, List.getElem_cons_succ, List.getElem_cons_zero, List.setIfInBounds_toArray, List.set_cons_zero, List.set_cons_succ]
      refine wpAnyH_ready (rs := [6]) (by kernel_rfl) (by simp) ?_
      refine AllReadyH.cons rfl (fun K' hK => ?_) AllReadyH.nil
      rw [if_pos (by rfl)]
      simp only [List.getElem_toArray, List.getElem_cons_succ, List.getElem_cons_zero]
      go_wp2_with fail
      refine (KB2.out _).mono ?_
      rintro r ww ⟨rfl, rfl⟩
      try go_wp2_with fail
      refine hK.out _ _ (⟨hW, hB, C0, hC0, hR⟩) (fun hHeld => ?_)
      clear hK K'
      try simp only [Act.put, List.getElem_toArray, List.getElem_cons_succ, List.getElem_cons_zero, List.setIfInBounds_toArray, List.set_cons_zero, List.set_cons_succ]
      clear hW hB hC0 hR
      obtain ⟨hW, hB, C0, hC0, hR⟩ := id hHeld
      refine wpAnyH_take (i := 7) (v := (.int .i64 (192 + B4 + B2))) rfl (by kernel_rfl) (by kernel_rfl) (by kernel_rfl) (fun _ _ _ h => h) (Or.inl ⟨by rfl, ?_⟩) (by assumption) ?_
      · intro w9 hSw
        try dsimp only at hSw
        go_simp
        all_goals try (rw [wrapI64 _ (by omega) (by omega)])
        all_goals try decide
        all_goals try omega
      try simp only [Act.put, List.getElem_toArray, List.getElem_cons_succ, List.getElem_cons_zero, List.setIfInBounds_toArray, List.set_cons_zero, List.set_cons_succ]
      refine wpAnyH_ready (rs := [10]) (by kernel_rfl) (by simp) ?_
      refine AllReadyH.cons rfl (fun K' hK => ?_) AllReadyH.nil
      rw [if_pos (by rfl)]
      simp only [List.getElem_toArray, List.getElem_cons_succ, List.getElem_cons_zero]
      go_wp2_with fail
      refine (KP.out _).mono ?_
      rintro r ww ⟨rfl, v8_0, v8_1, v8_2, v8_3, v8_4, rfl⟩
      try go_wp2_with fail
      refine hK.out _ _ (⟨(Below.al (Below.al (Below.al (Below.al (Below.al hW _) _) _) _) _), (ext_al (ext_al (ext_al (ext_al (ext_al hB))))), C0, hC0, (ext_al (ext_al (ext_al (ext_al (ext_al hR)))))⟩) (fun hHeld => ?_)
      clear hK K'
      try simp only [Act.put, List.getElem_toArray, List.getElem_cons_succ, List.getElem_cons_zero, List.setIfInBounds_toArray, List.set_cons_zero, List.set_cons_succ]
      clear hW hB hC0 hR
      obtain ⟨hW, hB, C0, hC0, hR⟩ := id hHeld
      refine wpAnyH_ready (rs := [13]) (by kernel_rfl) (by simp) ?_
      refine AllReadyH.cons rfl (fun K' hK => ?_) AllReadyH.nil
      rw [if_pos (by rfl)]
      simp only [List.getElem_toArray, List.getElem_cons_succ, List.getElem_cons_zero]
      go_wp2_with fail
      refine (KQ.out _).mono ?_
      rintro r ww ⟨rfl, v9_0, v9_1, rfl⟩
      try go_wp2_with fail
      refine hK.out _ _ (⟨(Below.al (Below.al hW _) _), (ext_al (ext_al hB)), C0, hC0, (ext_al (ext_al hR))⟩) (fun hHeld => ?_)
      clear hK K'
      try simp only [Act.put, List.getElem_toArray, List.getElem_cons_succ, List.getElem_cons_zero, List.setIfInBounds_toArray, List.set_cons_zero, List.set_cons_succ]
      clear hW hB hC0 hR
      obtain ⟨hW, hB, C0, hC0, hR⟩ := id hHeld
      refine wpAnyH_ready (rs := [15]) (by kernel_rfl) (by simp) ?_
      refine AllReadyH.cons rfl (fun K' hK => ?_) AllReadyH.nil
      rw [if_pos (by rfl)]
      simp only [List.getElem_toArray, List.getElem_cons_succ, List.getElem_cons_zero]
      refine wp_store_by 31 (.tmp 2) (.tmp 40) rfl _ _ rfl rfl (store8 _ _ C0 x0 (i % 256) (i / 256) s y4 y5 y6 y7 _ hR hC0) ?_
      refine hK.out _ _ (⟨below_setRow hW (by omega) _, (setRow_other _ _ _ _ (by omega)).trans hB, _, rfl, setRow_heap _ _ _ _ _ _ hR⟩) (fun hHeld => ?_)
      clear hK K'
      try simp only [Act.put, List.getElem_toArray, List.getElem_cons_succ, List.getElem_cons_zero, List.setIfInBounds_toArray, List.set_cons_zero, List.set_cons_succ]
      refine wpAnyH_take (i := 16) (v := (.bool false)) rfl (by kernel_rfl) (by kernel_rfl) (by kernel_rfl) (fun _ _ _ h => h) (Or.inl ⟨by rfl, ?_⟩) (by assumption) ?_
      · intro w9 hSw
        try dsimp only at hSw
        go_simp
        all_goals try decide
        all_goals try assumption
        all_goals try omega
      try simp only [Act.put, List.getElem_toArray, List.getElem_cons_succ, List.getElem_cons_zero, List.setIfInBounds_toArray, List.set_cons_zero, List.set_cons_succ]
      refine wpAnyH_done (by kernel_rfl) ?_ _
      have hc := fun j => cell_of_row _ (w.heap.size + 1) j _ _ _ (setRow_heap _ _ _ (ar8 x0 (i % 256) (i / 256) s y4 y5 y6 y7) _ _ hR)
      have hb := below_setRow hW (Nat.le_succ w.heap.size) (ar8 x0 (i % 256) (i / 256) s y4 y5 y6 y7)
      clear hHeld hW hB hC0
      go_wp2_with fail
      refine bodyPost_ret (v := .tuple #[arr8 x0 (i % 256) (i / 256) s y4 y5 y6 y7, .bool false]) ?_ rfl ⟨⟨x0, (i % 256), (i / 256), s, y4, y5, y6, y7⟩, false, rfl, ?_, ?_⟩
      · simp [results, Try.results61, go_sem, hc]
      · exact hO.out
      · exact hb
  · go_enter Try.func61, Try.ntmps61
    go_wp2_with fail
    with_reducible refine (HS.out _ (by repeat (first | assumption | exact Below.refl _ _ | apply Below.drew | apply Below.al))).mono ?_
    rintro r ww ⟨rfl, v1, v2, rfl⟩
    go_wp2_with fail
    refine wp_region_held_drew (S := fun x => Below w.heap.size w x ∧ x.heap[w.heap.size]? = some (.cells (cmC k i s true n q a len cap t l c b e u m o) 36 (0, 0)) ∧ ∃ C : Array Value, C.size = 8 ∧ x.heap[w.heap.size + 1]? = some (.cells C 31 (0, 0))) (by kernel_rfl) (⟨(by repeat (first | assumption | exact Below.refl _ _ | apply Below.drew | apply Below.al)), (by repeat (first | assumption | exact heap_at _ _ _ rfl | exact heap_at _ _ _ (by simp) | rw [heap_drew] | rw [Below.heap_alloc _ _ _ (by first | (simp; done) | (simp; omega) | omega)])), _, rfl, (by repeat (first | assumption | exact heap_at _ _ _ rfl | exact heap_at _ _ _ (by simp) | rw [heap_drew] | rw [Below.heap_alloc _ _ _ (by first | (simp; done) | (simp; omega) | omega)]))⟩) (fun hHeld => ?_)
    obtain ⟨hW, hB, C0, hC0, hR⟩ := id hHeld
    refine wpAnyH_take (i := 0) (v := (.pointer (some ⟨w.heap.size, 9, none⟩))) rfl (by kernel_rfl) (by kernel_rfl) (by kernel_rfl) (fun _ _ _ h => h) (Or.inl ⟨by rfl, ?_⟩) (by assumption) ?_
    · intro w9 hSw
      try dsimp only at hSw
      go_simp
      all_goals try decide
      all_goals try assumption
      all_goals try omega
    try simp only [Act.put, List.getElem_toArray, List.getElem_cons_succ, List.getElem_cons_zero, List.setIfInBounds_toArray, List.set_cons_zero, List.set_cons_succ]
    refine wpAnyH_take (i := 1) (v := (.bool c)) rfl (by kernel_rfl) (by kernel_rfl) (by kernel_rfl) (fun _ _ _ h => h) (Or.inl ⟨by rfl, ?_⟩) (by assumption) ?_
    · intro w9 hSw
      try dsimp only at hSw
      exact ex_load 4 (.tmp 27) rfl _ _ rfl (ld_4 _ _ _ _ (by rw [cell_of_row _ _ 9 _ _ _ hSw.2.1]; rfl))
    try simp only [Act.put, List.getElem_toArray, List.getElem_cons_succ, List.getElem_cons_zero, List.setIfInBounds_toArray, List.set_cons_zero, List.set_cons_succ]
    refine wpAnyH_take (i := 4) (v := (.pointer (some ⟨w.heap.size, 3, none⟩))) rfl (by kernel_rfl) (by kernel_rfl) (by kernel_rfl) (fun _ _ _ h => h) (Or.inl ⟨by rfl, ?_⟩) (by assumption) ?_
    · intro w9 hSw
      try dsimp only at hSw
      go_simp
      all_goals try decide
      all_goals try assumption
      all_goals try omega
    try simp only [Act.put, List.getElem_toArray, List.getElem_cons_succ, List.getElem_cons_zero, List.setIfInBounds_toArray, List.set_cons_zero, List.set_cons_succ]
    refine wpAnyH_take (i := 5) (v := (.bool true)) rfl (by kernel_rfl) (by kernel_rfl) (by kernel_rfl) (fun _ _ _ h => h) (Or.inl ⟨by rfl, ?_⟩) (by assumption) ?_
    · intro w9 hSw
      try dsimp only at hSw
      exact ex_load 4 (.tmp 31) rfl _ _ rfl (ld_4 _ _ _ _ (by rw [cell_of_row _ _ 3 _ _ _ hSw.2.1]; rfl))
    try simp only [Act.put, List.getElem_toArray, List.getElem_cons_succ, List.getElem_cons_zero, List.setIfInBounds_toArray, List.set_cons_zero, List.set_cons_succ]
    refine wpAnyH_take (i := 8) (v := (.pointer (some ⟨w.heap.size, 1, none⟩))) rfl (by kernel_rfl) (by kernel_rfl) (by kernel_rfl) (fun _ _ _ h => h) (Or.inl ⟨by rfl, ?_⟩) (by assumption) ?_
    · intro w9 hSw
      try dsimp only at hSw
      go_simp
      all_goals try decide
      all_goals try assumption
      all_goals try omega
    try simp only [Act.put, List.getElem_toArray, List.getElem_cons_succ, List.getElem_cons_zero, List.setIfInBounds_toArray, List.set_cons_zero, List.set_cons_succ]
    refine wpAnyH_take (i := 9) (v := (.agg #[.int .u16 i, .int .u8 s])) rfl (by kernel_rfl) (by kernel_rfl) (by kernel_rfl) (fun _ _ _ h => h) (Or.inl ⟨by rfl, ?_⟩) (by assumption) ?_
    · intro w9 hSw
      try dsimp only at hSw
      exact ex_load 24 (.tmp 35) rfl _ _ rfl (ldPl _ _ _ _ (by rw [cell_of_row _ _ 1 _ _ _ hSw.2.1]; rfl) (by rw [cell_of_row _ _ 2 _ _ _ hSw.2.1]; rfl))
    try simp only [Act.put, List.getElem_toArray, List.getElem_cons_succ, List.getElem_cons_zero, List.setIfInBounds_toArray, List.set_cons_zero, List.set_cons_succ]
    refine wpAnyH_take (i := 11) (v := (.pointer (some ⟨w.heap.size, 4, none⟩))) rfl (by kernel_rfl) (by kernel_rfl) (by kernel_rfl) (fun _ _ _ h => h) (Or.inl ⟨by rfl, ?_⟩) (by assumption) ?_
    · intro w9 hSw
      try dsimp only at hSw
      go_simp
      all_goals try decide
      all_goals try assumption
      all_goals try omega
    try simp only [Act.put, List.getElem_toArray, List.getElem_cons_succ, List.getElem_cons_zero, List.setIfInBounds_toArray, List.set_cons_zero, List.set_cons_succ]
    refine wpAnyH_take (i := 12) (v := (.int .u32 n)) rfl (by kernel_rfl) (by kernel_rfl) (by kernel_rfl) (fun _ _ _ h => h) (Or.inl ⟨by rfl, ?_⟩) (by assumption) ?_
    · intro w9 hSw
      try dsimp only at hSw
      exact ex_load 25 (.tmp 38) rfl _ _ rfl (ld_25 _ _ _ _ (by rw [cell_of_row _ _ 4 _ _ _ hSw.2.1]; rfl))
    try simp only [Act.put, List.getElem_toArray, List.getElem_cons_succ, List.getElem_cons_zero, List.setIfInBounds_toArray, List.set_cons_zero, List.set_cons_succ]
    refine wpAnyH_take (i := 14) (v := (.bool true)) rfl (by kernel_rfl) (by kernel_rfl) (by kernel_rfl) (fun _ _ _ h => h) (Or.inl ⟨by rfl, ?_⟩) (by assumption) ?_
    · intro w9 hSw
      try dsimp only at hSw
      go_simp
      all_goals try decide
      all_goals try assumption
      all_goals try omega
    try simp only [Act.put, List.getElem_toArray, List.getElem_cons_succ, List.getElem_cons_zero, List.setIfInBounds_toArray, List.set_cons_zero, List.set_cons_succ]
    refine wpAnyH_ready (rs := [2]) (by kernel_rfl) (by simp) ?_
    refine AllReadyH.cons rfl (fun K' hK => ?_) AllReadyH.nil
    rw [if_pos (by rfl)]
    simp only [List.getElem_toArray, List.getElem_cons_succ, List.getElem_cons_zero]
    go_wp2_with fail
    refine (KB4.out _).mono ?_
    rintro r ww ⟨rfl, rfl⟩
    try go_wp2_with fail
    refine hK.out _ _ (⟨hW, hB, C0, hC0, hR⟩) (fun hHeld => ?_)
    clear hK K'
    try simp only [Act.put, List.getElem_toArray, List.getElem_cons_succ, List.getElem_cons_zero, List.setIfInBounds_toArray, List.set_cons_zero, List.set_cons_succ]
    clear hW hB hC0 hR
    obtain ⟨hW, hB, C0, hC0, hR⟩ := id hHeld
    refine wpAnyH_take (i := 3) (v := (.int .i64 (192 + B4))) rfl (by kernel_rfl) (by kernel_rfl) (by kernel_rfl) (fun _ _ _ h => h) (Or.inl ⟨by rfl, ?_⟩) (by assumption) ?_
    · intro w9 hSw
      try dsimp only at hSw
      go_simp
      all_goals try (rw [wrapI64 _ (by omega) (by omega)])
      all_goals try decide
      all_goals try omega
    try simp only [Act.put, List.getElem_toArray, List.getElem_cons_succ, List.getElem_cons_zero, List.setIfInBounds_toArray, List.set_cons_zero, List.set_cons_succ]
    refine wpAnyH_ready (rs := [6]) (by kernel_rfl) (by simp) ?_
    refine AllReadyH.cons rfl (fun K' hK => ?_) AllReadyH.nil
    rw [if_pos (by rfl)]
    simp only [List.getElem_toArray, List.getElem_cons_succ, List.getElem_cons_zero]
    go_wp2_with fail
    refine (KB2.out _).mono ?_
    rintro r ww ⟨rfl, rfl⟩
    try go_wp2_with fail
    refine hK.out _ _ (⟨hW, hB, C0, hC0, hR⟩) (fun hHeld => ?_)
    clear hK K'
    try simp only [Act.put, List.getElem_toArray, List.getElem_cons_succ, List.getElem_cons_zero, List.setIfInBounds_toArray, List.set_cons_zero, List.set_cons_succ]
    clear hW hB hC0 hR
    obtain ⟨hW, hB, C0, hC0, hR⟩ := id hHeld
    refine wpAnyH_take (i := 7) (v := (.int .i64 (192 + B4 + B2))) rfl (by kernel_rfl) (by kernel_rfl) (by kernel_rfl) (fun _ _ _ h => h) (Or.inl ⟨by rfl, ?_⟩) (by assumption) ?_
    · intro w9 hSw
      try dsimp only at hSw
      go_simp
      all_goals try (rw [wrapI64 _ (by omega) (by omega)])
      all_goals try decide
      all_goals try omega
    try simp only [Act.put, List.getElem_toArray, List.getElem_cons_succ, List.getElem_cons_zero, List.setIfInBounds_toArray, List.set_cons_zero, List.set_cons_succ]
    refine wpAnyH_ready (rs := [10]) (by kernel_rfl) (by simp) ?_
    refine AllReadyH.cons rfl (fun K' hK => ?_) AllReadyH.nil
    rw [if_pos (by rfl)]
    simp only [List.getElem_toArray, List.getElem_cons_succ, List.getElem_cons_zero]
    go_wp2_with fail
    refine (KP.out _).mono ?_
    rintro r ww ⟨rfl, v10_0, v10_1, v10_2, v10_3, v10_4, rfl⟩
    try go_wp2_with fail
    refine hK.out _ _ (⟨(Below.al (Below.al (Below.al (Below.al (Below.al hW _) _) _) _) _), (ext_al (ext_al (ext_al (ext_al (ext_al hB))))), C0, hC0, (ext_al (ext_al (ext_al (ext_al (ext_al hR)))))⟩) (fun hHeld => ?_)
    clear hK K'
    try simp only [Act.put, List.getElem_toArray, List.getElem_cons_succ, List.getElem_cons_zero, List.setIfInBounds_toArray, List.set_cons_zero, List.set_cons_succ]
    clear hW hB hC0 hR
    obtain ⟨hW, hB, C0, hC0, hR⟩ := id hHeld
    refine wpAnyH_ready (rs := [13]) (by kernel_rfl) (by simp) ?_
    refine AllReadyH.cons rfl (fun K' hK => ?_) AllReadyH.nil
    rw [if_pos (by rfl)]
    simp only [List.getElem_toArray, List.getElem_cons_succ, List.getElem_cons_zero]
    go_wp2_with fail
    refine (KQ.out _).mono ?_
    rintro r ww ⟨rfl, v11_0, v11_1, rfl⟩
    try go_wp2_with fail
    refine hK.out _ _ (⟨(Below.al (Below.al hW _) _), (ext_al (ext_al hB)), C0, hC0, (ext_al (ext_al hR))⟩) (fun hHeld => ?_)
    clear hK K'
    try simp only [Act.put, List.getElem_toArray, List.getElem_cons_succ, List.getElem_cons_zero, List.setIfInBounds_toArray, List.set_cons_zero, List.set_cons_succ]
    clear hW hB hC0 hR
    obtain ⟨hW, hB, C0, hC0, hR⟩ := id hHeld
    refine wpAnyH_ready (rs := [15]) (by kernel_rfl) (by simp) ?_
    refine AllReadyH.cons rfl (fun K' hK => ?_) AllReadyH.nil
    rw [if_pos (by rfl)]
    simp only [List.getElem_toArray, List.getElem_cons_succ, List.getElem_cons_zero]
    refine wp_store_by 31 (.tmp 2) (.tmp 40) rfl _ _ rfl rfl (store8 _ _ C0 x0 (i % 256) (i / 256) s y4 y5 y6 y7 _ hR hC0) ?_
    refine hK.out _ _ (⟨below_setRow hW (by omega) _, (setRow_other _ _ _ _ (by omega)).trans hB, _, rfl, setRow_heap _ _ _ _ _ _ hR⟩) (fun hHeld => ?_)
    clear hK K'
    try simp only [Act.put, List.getElem_toArray, List.getElem_cons_succ, List.getElem_cons_zero, List.setIfInBounds_toArray, List.set_cons_zero, List.set_cons_succ]
    refine wpAnyH_take (i := 16) (v := (.bool true)) rfl (by kernel_rfl) (by kernel_rfl) (by kernel_rfl) (fun _ _ _ h => h) (Or.inl ⟨by rfl, ?_⟩) (by assumption) ?_
    · intro w9 hSw
      try dsimp only at hSw
      go_simp
      all_goals try decide
      all_goals try assumption
      all_goals try omega
    try simp only [Act.put, List.getElem_toArray, List.getElem_cons_succ, List.getElem_cons_zero, List.setIfInBounds_toArray, List.set_cons_zero, List.set_cons_succ]
    refine wpAnyH_done (by kernel_rfl) ?_ _
    have hc := fun j => cell_of_row _ (w.heap.size + 1) j _ _ _ (setRow_heap _ _ _ (ar8 x0 (i % 256) (i / 256) s y4 y5 y6 y7) _ _ hR)
    have hb := below_setRow hW (Nat.le_succ w.heap.size) (ar8 x0 (i % 256) (i / 256) s y4 y5 y6 y7)
    clear hHeld hW hB hC0
    go_wp2_with fail
    refine bodyPost_ret (v := .tuple #[arr8 x0 (i % 256) (i / 256) s y4 y5 y6 y7, .bool true]) ?_ rfl ⟨⟨x0, (i % 256), (i / 256), s, y4, y5, y6, y7⟩, true, rfl, ?_, ?_⟩
    · simp [results, Try.results61, go_sem, hc]
    · exact hO.out
    · exact hb
#print axioms rsized_any
end Go.Proofs.Ytgpegnpjkkofaaa
