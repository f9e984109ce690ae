/-
  The walk of the document's ask, where it calls no other one.
  The walk of the document's answer, where it calls no other one.
-/
import Derived.Test.YtgpegnpjkkofaaaRi
namespace Go.Proofs.Ytgpegnpjkkofaaa
open Go.RowKit

set_option linter.unusedSimpArgs false in
set_option maxHeartbeats 4000000 in
set_option maxRecDepth 100000 in
theorem rask_k3 (C : Cm) (ok : C.Ok) (hk : C.k = 3) (a : Option Addr) (cap : Nat) (w : World) (hr : Row w a C.d.length C.d) :
    Calls Try.prog 24 #[C.v a C.d.length cap] w (QPost w (askP C)) := by
  have hA : askP C = wPlace 64 C := by unfold askP; simp [hk]
  rw [hA]
  clear hA
  have HS : Hid (∀ W, Below w.heap.size w W → Calls Try.prog 18 #[cmV C.k C.i C.s false 0 false none 0 0 false false false 0 0 0 0 0, cmV C.k C.i C.s C.z C.n C.q a C.d.length cap C.t C.l C.c C.b C.e C.u C.m C.o] W fun r w' => r = .returned (.bool (C.only 1)) ∧ ∃ o1 o2, w' = (W.alloc o1).alloc o2) := fun W hb => by
    have := same_any ⟨C.k, C.i, C.s, false, 0, false, [], false, false, false, 0, 0, 0, 0, 0⟩ C none 0 0 a C.d.length cap W (row_nil W) (hr.next hb)
    rw [bare_1] at this
    exact this
  obtain ⟨x0, hx0⟩ : ∃ y, (64 : Int) % 256 = y := ⟨_, rfl⟩
  have KP : Hid (∀ W, Calls Try.prog 59 #[.int .i64 (64), .agg #[.int .u16 C.i, .int .u8 C.s]] W fun e w' => e = .returned (arr8 x0 (C.i % 256) (C.i / 256) C.s 0 0 0 0) ∧ ∃ o1 o2 o3 o4 o5, w' = ((((W.alloc o1).alloc o2).alloc o3).alloc o4).alloc o5) := fun W => hx0 ▸ placed_any (64) C.i C.s ok.i W
  have hO : Hid (wPlace 64 C = if C.only 1 then some ⟨x0, C.i % 256, C.i / 256, C.s, 0, 0, 0, 0⟩ else none) := by rw [← hx0]; rfl
  clear hx0
  generalize C.only 1 = E at HS hO
  generalize wPlace 64 C = O at hO ⊢
  clear hr ok
  generalize C.d.length = len at HS ⊢
  obtain ⟨k, i, s, z, n, q, d, t, l, c, b, e, u, m, o⟩ := C
  dsimp only at HS hO hk KP ⊢
  subst hk
  go_enter Try.func24, Try.ntmps24
  go_wp2_with fail
  refine wp_region_held_drew (S := fun x => Below w.heap.size w x ∧ x.heap[w.heap.size]? = some (.cells (cmC 3 i s z n q a len cap t l c b e u m o) 36 (0, 0)) ∧ ∃ C : Array Value, C.size = 8 ∧ x.heap[w.heap.size + 1]? = some (.cells C 31 (0, 0))) (by kernel_rfl) (⟨Below.drew (Below.al (Below.al (Below.refl _ _) _) _), (heap_drew _ _).trans (ext_al (heap_new _ _)), ar8 0 0 0 0 0 0 0 0, rfl, (heap_drew _ _).trans (heap_at _ _ _ (by simp))⟩) (fun hHeld => ?_)
  obtain ⟨hW, hB, C0, hC0, hR⟩ := id hHeld
  refine wpAnyH_take (i := 0) (v := (.pointer (some ⟨w.heap.size, 1, none⟩))) rfl (by kernel_rfl) (by kernel_rfl) (by kernel_rfl) (fun _ _ _ h => h) (Or.inl ⟨by rfl, ?_⟩) (by assumption) ?_
  · intro w9 hSw
    try dsimp only at hSw
    go_simp
    all_goals try decide
    all_goals try assumption
    all_goals try omega
  try simp only [Act.put, List.getElem_toArray, List.getElem_cons_succ, List.getElem_cons_zero, List.setIfInBounds_toArray, List.set_cons_zero, List.set_cons_succ]
  refine wpAnyH_take (i := 1) (v := (.agg #[.int .u16 i, .int .u8 s])) rfl (by kernel_rfl) (by kernel_rfl) (by kernel_rfl) (fun _ _ _ h => h) (Or.inl ⟨by rfl, ?_⟩) (by assumption) ?_
  · intro w9 hSw
    try dsimp only at hSw
    exact ex_load 24 (.tmp 20) rfl _ _ rfl (ldPl _ _ _ _ (by rw [cell_of_row _ _ 1 _ _ _ hSw.2.1]; rfl) (by rw [cell_of_row _ _ 2 _ _ _ hSw.2.1]; rfl))
  try simp only [Act.put, List.getElem_toArray, List.getElem_cons_succ, List.getElem_cons_zero, List.setIfInBounds_toArray, List.set_cons_zero, List.set_cons_succ]
  refine wpAnyH_take (i := 3) (v := (.pointer (some ⟨w.heap.size, 1, none⟩))) rfl (by kernel_rfl) (by kernel_rfl) (by kernel_rfl) (fun _ _ _ h => h) (Or.inl ⟨by rfl, ?_⟩) (by assumption) ?_
  · intro w9 hSw
    try dsimp only at hSw
    go_simp
    all_goals try decide
    all_goals try assumption
    all_goals try omega
  try simp only [Act.put, List.getElem_toArray, List.getElem_cons_succ, List.getElem_cons_zero, List.setIfInBounds_toArray, List.set_cons_zero, List.set_cons_succ]
  refine wpAnyH_take (i := 4) (v := (.agg #[.int .u16 i, .int .u8 s])) rfl (by kernel_rfl) (by kernel_rfl) (by kernel_rfl) (fun _ _ _ h => h) (Or.inl ⟨by rfl, ?_⟩) (by assumption) ?_
  · intro w9 hSw
    try dsimp only at hSw
    exact ex_load 24 (.tmp 23) rfl _ _ rfl (ldPl _ _ _ _ (by rw [cell_of_row _ _ 1 _ _ _ hSw.2.1]; rfl) (by rw [cell_of_row _ _ 2 _ _ _ hSw.2.1]; rfl))
  try simp only [Act.put, List.getElem_toArray, List.getElem_cons_succ, List.getElem_cons_zero, List.setIfInBounds_toArray, List.set_cons_zero, List.set_cons_succ]
  refine wpAnyH_take (i := 5) (v := (cmV 3 i s false 0 false none 0 0 false false false 0 0 0 0 0)) rfl (by kernel_rfl) (by kernel_rfl) (by kernel_rfl) (fun _ _ _ h => h) (Or.inl ⟨by rfl, ?_⟩) (by assumption) ?_
  · intro w9 hSw
    try dsimp only at hSw
    go_simp
    all_goals try decide
    all_goals try assumption
    all_goals try omega
  try simp only [Act.put, List.getElem_toArray, List.getElem_cons_succ, List.getElem_cons_zero, List.setIfInBounds_toArray, List.set_cons_zero, List.set_cons_succ]
  refine wpAnyH_take (i := 6) (v := (cmV 3 i s z n q a len cap t l c b e u m o)) rfl (by kernel_rfl) (by kernel_rfl) (by kernel_rfl) (fun _ _ _ h => h) (Or.inl ⟨by rfl, ?_⟩) (by assumption) ?_
  · intro w9 hSw
    try dsimp only at hSw
    exact ex_load 36 (.tmp 1) rfl _ _ rfl (loadRC _ _ _ _ _ _ _ _ _ _ _ _ _ _ _ _ _ _ _ _ hSw.2.1)
  try simp only [Act.put, List.getElem_toArray, List.getElem_cons_succ, List.getElem_cons_zero, List.setIfInBounds_toArray, List.set_cons_zero, List.set_cons_succ]
  refine wpAnyH_ready (rs := [2]) (by kernel_rfl) (by simp) ?_
  refine AllReadyH.cons rfl (fun K' hK => ?_) AllReadyH.nil
  rw [if_pos (by rfl)]
  simp only [List.getElem_toArray, List.getElem_cons_succ, List.getElem_cons_zero]
  go_wp2_with fail
  refine (KP.out _).mono ?_
  rintro r ww ⟨rfl, v44_0, v44_1, v44_2, v44_3, v44_4, rfl⟩
  try go_wp2_with fail
  refine hK.out _ _ (⟨(Below.al (Below.al (Below.al (Below.al (Below.al hW _) _) _) _) _), (ext_al (ext_al (ext_al (ext_al (ext_al hB))))), C0, hC0, (ext_al (ext_al (ext_al (ext_al (ext_al hR)))))⟩) (fun hHeld => ?_)
  clear hK K'
  try simp only [Act.put, List.getElem_toArray, List.getElem_cons_succ, List.getElem_cons_zero, List.setIfInBounds_toArray, List.set_cons_zero, List.set_cons_succ]
  clear hW hB hC0 hR
  obtain ⟨hW, hB, C0, hC0, hR⟩ := id hHeld
  refine wpAnyH_ready (rs := [7]) (by kernel_rfl) (by simp) ?_
  refine AllReadyH.cons rfl (fun K' hK => ?_) AllReadyH.nil
  rw [if_pos (by rfl)]
  simp only [List.getElem_toArray, List.getElem_cons_succ, List.getElem_cons_zero]
  go_wp2_with fail
  refine (HS.out _ hW).mono ?_
  rintro r ww ⟨rfl, v45_0, v45_1, rfl⟩
  try go_wp2_with fail
  refine hK.out _ _ (⟨(Below.al (Below.al hW _) _), (ext_al (ext_al hB)), C0, hC0, (ext_al (ext_al hR))⟩) (fun hHeld => ?_)
  clear hK K'
  try simp only [Act.put, List.getElem_toArray, List.getElem_cons_succ, List.getElem_cons_zero, List.setIfInBounds_toArray, List.set_cons_zero, List.set_cons_succ]
  clear hW hB hC0 hR
  obtain ⟨hW, hB, C0, hC0, hR⟩ := id hHeld
  refine wpAnyH_ready (rs := [8]) (by kernel_rfl) (by simp) ?_
  refine AllReadyH.cons rfl (fun K' hK => ?_) AllReadyH.nil
  rw [if_pos (by rfl)]
  simp only [List.getElem_toArray, List.getElem_cons_succ, List.getElem_cons_zero]
  refine wp_store_by 31 (.tmp 2) (.tmp 22) rfl _ _ rfl rfl (store8 _ _ C0 x0 (i % 256) (i / 256) s 0 0 0 0 _ hR hC0) ?_
  refine hK.out _ _ (⟨below_setRow hW (by omega) _, (setRow_other _ _ _ _ (by omega)).trans hB, _, rfl, setRow_heap _ _ _ _ _ _ hR⟩) (fun hHeld => ?_)
  clear hK K'
  try simp only [Act.put, List.getElem_toArray, List.getElem_cons_succ, List.getElem_cons_zero, List.setIfInBounds_toArray, List.set_cons_zero, List.set_cons_succ]
  refine wpAnyH_take (i := 9) (v := (.bool E)) rfl (by kernel_rfl) (by kernel_rfl) (by kernel_rfl) (fun _ _ _ h => h) (Or.inl ⟨by rfl, ?_⟩) (by assumption) ?_
  · intro w9 hSw
    try dsimp only at hSw
    go_simp
    all_goals try decide
    all_goals try assumption
    all_goals try omega
  try simp only [Act.put, List.getElem_toArray, List.getElem_cons_succ, List.getElem_cons_zero, List.setIfInBounds_toArray, List.set_cons_zero, List.set_cons_succ]
  refine wpAnyH_done (by kernel_rfl) ?_ _
  have hc := fun j => cell_of_row _ (w.heap.size + 1) j _ _ _ (setRow_heap _ _ _ (ar8 x0 (i % 256) (i / 256) s 0 0 0 0) _ _ hR)
  have hb := below_setRow hW (Nat.le_succ w.heap.size) (ar8 x0 (i % 256) (i / 256) s 0 0 0 0)
  clear hHeld hW hB hC0
  go_wp2_with fail
  refine bodyPost_ret (v := .tuple #[arr8 x0 (i % 256) (i / 256) s 0 0 0 0, .bool E]) ?_ rfl ⟨⟨x0, (i % 256), (i / 256), s, 0, 0, 0, 0⟩, E, rfl, ?_, ?_⟩
  · simp [results, Try.results24, go_sem, hc]
  · exact hO.out
  · exact hb

set_option linter.unusedSimpArgs false in
set_option maxHeartbeats 4000000 in
set_option maxRecDepth 100000 in
theorem rask_k4 (C : Cm) (_ok : C.Ok) (hk : C.k = 4) (a : Option Addr) (cap : Nat) (w : World) (hr : Row w a C.d.length C.d) :
    Calls Try.prog 24 #[C.v a C.d.length cap] w (QPost w (askP C)) := by
  have hA : askP C = wToggle 96 C := by unfold askP; simp [hk]
  rw [hA]
  clear hA
  have HS : Hid (∀ W, Below w.heap.size w W → Calls Try.prog 18 #[cmV C.k 0 0 false 0 false none 0 0 C.t false false 0 0 0 0 0, cmV C.k C.i C.s C.z C.n C.q a C.d.length cap C.t C.l C.c C.b C.e C.u C.m C.o] W fun r w' => r = .returned (.bool (C.only 32)) ∧ ∃ o1 o2, w' = (W.alloc o1).alloc o2) := fun W hb => by
    have := same_any ⟨C.k, 0, 0, false, 0, false, [], C.t, false, false, 0, 0, 0, 0, 0⟩ C none 0 0 a C.d.length cap W (row_nil W) (hr.next hb)
    rw [bare_32] at this
    exact this
  obtain ⟨BT, hBT, lBT, gBT⟩ : ∃ y, bitn C.t 16 = y ∧ 0 ≤ y ∧ y ≤ 16 := ⟨_, rfl, by unfold bitn; split <;> omega, by unfold bitn; split <;> omega⟩
  have KBT : Hid (∀ W, Calls Try.prog 34 #[.bool C.t, .int .i64 16] W fun e w' => e = .returned (.int .i64 BT) ∧ w' = W) := fun W => hBT ▸ rbit_any C.t 16 W
  obtain ⟨x0, hx0⟩ : ∃ y, (96 + BT) % 256 = y := ⟨_, rfl⟩
  have KL : Hid (∀ W, Calls Try.prog 33 #[.int .i64 (96 + BT)] W fun e w' => e = .returned (arr8 x0 0 0 0 0 0 0 0) ∧ ∃ o1 o2, w' = (W.alloc o1).alloc o2) := fun W => hx0 ▸ plain_any (96 + BT) W
  have hO : Hid (wToggle 96 C = if C.only 32 then some ⟨x0, 0, 0, 0, 0, 0, 0, 0⟩ else none) := by
    have e3 : x0 = bits .or .u8 96 (bitv C.t 16) := by rw [← hx0, ← hBT]; cases C.t <;> decide
    rw [e3]; rfl
  clear hx0 hBT
  generalize C.only 32 = E at HS hO
  generalize wToggle 96 C = O at hO ⊢
  clear hr _ok
  generalize C.d.length = len at HS ⊢
  obtain ⟨k, i, s, z, n, q, d, t, l, c, b, e, u, m, o⟩ := C
  dsimp only at HS hO hk KBT ⊢
  subst hk
  go_enter Try.func24, Try.ntmps24
  go_wp2_with fail
  refine wp_region_held_drew (S := fun x => Below w.heap.size w x ∧ x.heap[w.heap.size]? = some (.cells (cmC 4 i s z n q a len cap t l c b e u m o) 36 (0, 0)) ∧ ∃ C : Array Value, C.size = 8 ∧ x.heap[w.heap.size + 1]? = some (.cells C 31 (0, 0))) (by kernel_rfl) (⟨Below.drew (Below.al (Below.al (Below.refl _ _) _) _), (heap_drew _ _).trans (ext_al (heap_new _ _)), ar8 0 0 0 0 0 0 0 0, rfl, (heap_drew _ _).trans (heap_at _ _ _ (by simp))⟩) (fun hHeld => ?_)
  obtain ⟨hW, hB, C0, hC0, hR⟩ := id hHeld
  refine wpAnyH_take (i := 0) (v := (.pointer (some ⟨w.heap.size, 7, none⟩))) rfl (by kernel_rfl) (by kernel_rfl) (by kernel_rfl) (fun _ _ _ h => h) (Or.inl ⟨by rfl, ?_⟩) (by assumption) ?_
  · intro w9 hSw
    try dsimp only at hSw
    go_simp
    all_goals try decide
    all_goals try assumption
    all_goals try omega
  try simp only [Act.put, List.getElem_toArray, List.getElem_cons_succ, List.getElem_cons_zero, List.setIfInBounds_toArray, List.set_cons_zero, List.set_cons_succ]
  refine wpAnyH_take (i := 1) (v := (.bool t)) rfl (by kernel_rfl) (by kernel_rfl) (by kernel_rfl) (fun _ _ _ h => h) (Or.inl ⟨by rfl, ?_⟩) (by assumption) ?_
  · intro w9 hSw
    try dsimp only at hSw
    exact ex_load 4 (.tmp 30) rfl _ _ rfl (ld_4 _ _ _ _ (by rw [cell_of_row _ _ 7 _ _ _ hSw.2.1]; rfl))
  try simp only [Act.put, List.getElem_toArray, List.getElem_cons_succ, List.getElem_cons_zero, List.setIfInBounds_toArray, List.set_cons_zero, List.set_cons_succ]
  refine wpAnyH_take (i := 5) (v := (.pointer (some ⟨w.heap.size, 7, none⟩))) rfl (by kernel_rfl) (by kernel_rfl) (by kernel_rfl) (fun _ _ _ h => h) (Or.inl ⟨by rfl, ?_⟩) (by assumption) ?_
  · intro w9 hSw
    try dsimp only at hSw
    go_simp
    all_goals try decide
    all_goals try assumption
    all_goals try omega
  try simp only [Act.put, List.getElem_toArray, List.getElem_cons_succ, List.getElem_cons_zero, List.setIfInBounds_toArray, List.set_cons_zero, List.set_cons_succ]
  refine wpAnyH_take (i := 6) (v := (.bool t)) rfl (by kernel_rfl) (by kernel_rfl) (by kernel_rfl) (fun _ _ _ h => h) (Or.inl ⟨by rfl, ?_⟩) (by assumption) ?_
  · intro w9 hSw
    try dsimp only at hSw
    exact ex_load 4 (.tmp 35) rfl _ _ rfl (ld_4 _ _ _ _ (by rw [cell_of_row _ _ 7 _ _ _ hSw.2.1]; rfl))
  try simp only [Act.put, List.getElem_toArray, List.getElem_cons_succ, List.getElem_cons_zero, List.setIfInBounds_toArray, List.set_cons_zero, List.set_cons_succ]
  refine wpAnyH_take (i := 7) (v := (cmV 4 0 0 false 0 false none 0 0 t false false 0 0 0 0 0)) rfl (by kernel_rfl) (by kernel_rfl) (by kernel_rfl) (fun _ _ _ h => h) (Or.inl ⟨by rfl, ?_⟩) (by assumption) ?_
  · intro w9 hSw
    try dsimp only at hSw
    go_simp
    all_goals try decide
    all_goals try assumption
    all_goals try omega
  try simp only [Act.put, List.getElem_toArray, List.getElem_cons_succ, List.getElem_cons_zero, List.setIfInBounds_toArray, List.set_cons_zero, List.set_cons_succ]
  refine wpAnyH_take (i := 8) (v := (cmV 4 i s z n q a len cap t l c b e u m o)) rfl (by kernel_rfl) (by kernel_rfl) (by kernel_rfl) (fun _ _ _ h => h) (Or.inl ⟨by rfl, ?_⟩) (by assumption) ?_
  · intro w9 hSw
    try dsimp only at hSw
    exact ex_load 36 (.tmp 1) rfl _ _ rfl (loadRC _ _ _ _ _ _ _ _ _ _ _ _ _ _ _ _ _ _ _ _ hSw.2.1)
  try simp only [Act.put, List.getElem_toArray, List.getElem_cons_succ, List.getElem_cons_zero, List.setIfInBounds_toArray, List.set_cons_zero, List.set_cons_succ]
  refine wpAnyH_ready (rs := [2]) (by kernel_rfl) (by simp) ?_
  refine AllReadyH.cons rfl (fun K' hK => ?_) AllReadyH.nil
  rw [if_pos (by rfl)]
  simp only [List.getElem_toArray, List.getElem_cons_succ, List.getElem_cons_zero]
  go_wp2_with fail
  refine (KBT.out _).mono ?_
  rintro r ww ⟨rfl, rfl⟩
  try go_wp2_with fail
  refine hK.out _ _ (⟨hW, hB, C0, hC0, hR⟩) (fun hHeld => ?_)
  clear hK K'
  try simp only [Act.put, List.getElem_toArray, List.getElem_cons_succ, List.getElem_cons_zero, List.setIfInBounds_toArray, List.set_cons_zero, List.set_cons_succ]
  clear hW hB hC0 hR
  obtain ⟨hW, hB, C0, hC0, hR⟩ := id hHeld
  refine wpAnyH_take (i := 3) (v := (.int .i64 (96 + BT))) rfl (by kernel_rfl) (by kernel_rfl) (by kernel_rfl) (fun _ _ _ h => h) (Or.inl ⟨by rfl, ?_⟩) (by assumption) ?_
  · intro w9 hSw
    try dsimp only at hSw
    go_simp
    all_goals try (rw [wrapI64 _ (by omega) (by omega)])
    all_goals try decide
    all_goals try omega
  try simp only [Act.put, List.getElem_toArray, List.getElem_cons_succ, List.getElem_cons_zero, List.setIfInBounds_toArray, List.set_cons_zero, List.set_cons_succ]
  refine wpAnyH_ready (rs := [4]) (by kernel_rfl) (by simp) ?_
  refine AllReadyH.cons rfl (fun K' hK => ?_) AllReadyH.nil
  rw [if_pos (by rfl)]
  simp only [List.getElem_toArray, List.getElem_cons_succ, List.getElem_cons_zero]
  go_wp2_with fail
  refine (KL.out _).mono ?_
  rintro r ww ⟨rfl, v46_0, v46_1, rfl⟩
  try go_wp2_with fail
  refine hK.out _ _ (⟨(Below.al (Below.al hW _) _), (ext_al (ext_al hB)), C0, hC0, (ext_al (ext_al hR))⟩) (fun hHeld => ?_)
  clear hK K'
  try simp only [Act.put, List.getElem_toArray, List.getElem_cons_succ, List.getElem_cons_zero, List.setIfInBounds_toArray, List.set_cons_zero, List.set_cons_succ]
  clear hW hB hC0 hR
  obtain ⟨hW, hB, C0, hC0, hR⟩ := id hHeld
  refine wpAnyH_ready (rs := [9]) (by kernel_rfl) (by simp) ?_
  refine AllReadyH.cons rfl (fun K' hK => ?_) AllReadyH.nil
  rw [if_pos (by rfl)]
  simp only [List.getElem_toArray, List.getElem_cons_succ, List.getElem_cons_zero]
  go_wp2_with fail
  refine (HS.out _ hW).mono ?_
  rintro r ww ⟨rfl, v47_0, v47_1, rfl⟩
  try go_wp2_with fail
  refine hK.out _ _ (⟨(Below.al (Below.al hW _) _), (ext_al (ext_al hB)), C0, hC0, (ext_al (ext_al hR))⟩) (fun hHeld => ?_)
  clear hK K'
  try simp only [Act.put, List.getElem_toArray, List.getElem_cons_succ, List.getElem_cons_zero, List.setIfInBounds_toArray, List.set_cons_zero, List.set_cons_succ]
  clear hW hB hC0 hR
  obtain ⟨hW, hB, C0, hC0, hR⟩ := id hHeld
  refine wpAnyH_ready (rs := [10]) (by kernel_rfl) (by simp) ?_
  refine AllReadyH.cons rfl (fun K' hK => ?_) AllReadyH.nil
  rw [if_pos (by rfl)]
  simp only [List.getElem_toArray, List.getElem_cons_succ, List.getElem_cons_zero]
  refine wp_store_by 31 (.tmp 2) (.tmp 34) rfl _ _ rfl rfl (store8 _ _ C0 x0 0 0 0 0 0 0 0 _ hR hC0) ?_
  refine hK.out _ _ (⟨below_setRow hW (by omega) _, (setRow_other _ _ _ _ (by omega)).trans hB, _, rfl, setRow_heap _ _ _ _ _ _ hR⟩) (fun hHeld => ?_)
  clear hK K'
  try simp only [Act.put, List.getElem_toArray, List.getElem_cons_succ, List.getElem_cons_zero, List.setIfInBounds_toArray, List.set_cons_zero, List.set_cons_succ]
  refine wpAnyH_take (i := 11) (v := (.bool E)) rfl (by kernel_rfl) (by kernel_rfl) (by kernel_rfl) (fun _ _ _ h => h) (Or.inl ⟨by rfl, ?_⟩) (by assumption) ?_
  · intro w9 hSw
    try dsimp only at hSw
    go_simp
    all_goals try decide
    all_goals try assumption
    all_goals try omega
  try simp only [Act.put, List.getElem_toArray, List.getElem_cons_succ, List.getElem_cons_zero, List.setIfInBounds_toArray, List.set_cons_zero, List.set_cons_succ]
  refine wpAnyH_done (by kernel_rfl) ?_ _
  have hc := fun j => cell_of_row _ (w.heap.size + 1) j _ _ _ (setRow_heap _ _ _ (ar8 x0 0 0 0 0 0 0 0) _ _ hR)
  have hb := below_setRow hW (Nat.le_succ w.heap.size) (ar8 x0 0 0 0 0 0 0 0)
  clear hHeld hW hB hC0
  go_wp2_with fail
  refine bodyPost_ret (v := .tuple #[arr8 x0 0 0 0 0 0 0 0, .bool E]) ?_ rfl ⟨⟨x0, 0, 0, 0, 0, 0, 0, 0⟩, E, rfl, ?_, ?_⟩
  · simp [results, Try.results24, go_sem, hc]
  · exact hO.out
  · exact hb

set_option linter.unusedSimpArgs false in
set_option maxHeartbeats 4000000 in
set_option maxRecDepth 100000 in
theorem rask_k9 (C : Cm) (_ok : C.Ok) (hk : C.k = 9) (a : Option Addr) (cap : Nat) (w : World) (hr : Row w a C.d.length C.d) :
    Calls Try.prog 24 #[C.v a C.d.length cap] w (QPost w (askP C)) := by
  have hA : askP C = wBare 163 C := by unfold askP; simp [hk]
  rw [hA]
  clear hA
  have HS : Hid (∀ W, Below w.heap.size w W → Calls Try.prog 18 #[cmV C.k 0 0 false 0 false none 0 0 false false false 0 0 0 0 0, cmV C.k C.i C.s C.z C.n C.q a C.d.length cap C.t C.l C.c C.b C.e C.u C.m C.o] W fun r w' => r = .returned (.bool (C.only 0)) ∧ ∃ o1 o2, w' = (W.alloc o1).alloc o2) := fun W hb => by
    have := same_any ⟨C.k, 0, 0, false, 0, false, [], false, false, false, 0, 0, 0, 0, 0⟩ C none 0 0 a C.d.length cap W (row_nil W) (hr.next hb)
    rw [bare_0] at this
    exact this
  have KL : Hid (∀ W, Calls Try.prog 33 #[.int .i64 163] W fun e w' => e = .returned (arr8 163 0 0 0 0 0 0 0) ∧ ∃ o1 o2, w' = (W.alloc o1).alloc o2) := fun W => plain_any 163 W
  have hO : Hid (wBare 163 C = if C.only 0 then some ⟨163, 0, 0, 0, 0, 0, 0, 0⟩ else none) := rfl
  generalize C.only 0 = E at HS hO
  generalize wBare 163 C = O at hO ⊢
  clear hr _ok
  generalize C.d.length = len at HS ⊢
  obtain ⟨k, i, s, z, n, q, d, t, l, c, b, e, u, m, o⟩ := C
  dsimp only at HS hO hk ⊢
  subst hk
  go_enter Try.func24, Try.ntmps24
  go_wp2_with fail
  refine wp_region_held_drew (S := fun x => Below w.heap.size w x ∧ x.heap[w.heap.size]? = some (.cells (cmC 9 i s z n q a len cap t l c b e u m o) 36 (0, 0)) ∧ ∃ C : Array Value, C.size = 8 ∧ x.heap[w.heap.size + 1]? = some (.cells C 31 (0, 0))) (by kernel_rfl) (⟨Below.drew (Below.al (Below.al (Below.refl _ _) _) _), (heap_drew _ _).trans (ext_al (heap_new _ _)), ar8 0 0 0 0 0 0 0 0, rfl, (heap_drew _ _).trans (heap_at _ _ _ (by simp))⟩) (fun hHeld => ?_)
  obtain ⟨hW, hB, C0, hC0, hR⟩ := id hHeld
  refine wpAnyH_take (i := 1) (v := (cmV 9 0 0 false 0 false none 0 0 false false false 0 0 0 0 0)) rfl (by kernel_rfl) (by kernel_rfl) (by kernel_rfl) (fun _ _ _ h => h) (Or.inl ⟨by rfl, ?_⟩) (by assumption) ?_
  · intro w9 hSw
    try dsimp only at hSw
    go_simp
    all_goals try decide
    all_goals try assumption
    all_goals try omega
  try simp only [Act.put, List.getElem_toArray, List.getElem_cons_succ, List.getElem_cons_zero, List.setIfInBounds_toArray, List.set_cons_zero, List.set_cons_succ]
  refine wpAnyH_take (i := 2) (v := (cmV 9 i s z n q a len cap t l c b e u m o)) rfl (by kernel_rfl) (by kernel_rfl) (by kernel_rfl) (fun _ _ _ h => h) (Or.inl ⟨by rfl, ?_⟩) (by assumption) ?_
  · intro w9 hSw
    try dsimp only at hSw
    exact ex_load 36 (.tmp 1) rfl _ _ rfl (loadRC _ _ _ _ _ _ _ _ _ _ _ _ _ _ _ _ _ _ _ _ hSw.2.1)
  try simp only [Act.put, List.getElem_toArray, List.getElem_cons_succ, List.getElem_cons_zero, List.setIfInBounds_toArray, List.set_cons_zero, List.set_cons_succ]
  refine wpAnyH_ready (rs := [0]) (by kernel_rfl) (by simp) ?_
  refine AllReadyH.cons rfl (fun K' hK => ?_) AllReadyH.nil
  rw [if_pos (by rfl)]
  simp only [List.getElem_toArray, List.getElem_cons_succ, List.getElem_cons_zero]
  go_wp2_with fail
  refine (KL.out _).mono ?_
  rintro r ww ⟨rfl, v48_0, v48_1, rfl⟩
  try go_wp2_with fail
  refine hK.out _ _ (⟨(Below.al (Below.al hW _) _), (ext_al (ext_al hB)), C0, hC0, (ext_al (ext_al hR))⟩) (fun hHeld => ?_)
  clear hK K'
  try simp only [Act.put, List.getElem_toArray, List.getElem_cons_succ, List.getElem_cons_zero, List.setIfInBounds_toArray, List.set_cons_zero, List.set_cons_succ]
  clear hW hB hC0 hR
  obtain ⟨hW, hB, C0, hC0, hR⟩ := id hHeld
  refine wpAnyH_ready (rs := [3]) (by kernel_rfl) (by simp) ?_
  refine AllReadyH.cons rfl (fun K' hK => ?_) AllReadyH.nil
  rw [if_pos (by rfl)]
  simp only [List.getElem_toArray, List.getElem_cons_succ, List.getElem_cons_zero]
  go_wp2_with fail
  refine (HS.out _ hW).mono ?_
  rintro r ww ⟨rfl, v49_0, v49_1, rfl⟩
  try go_wp2_with fail
  refine hK.out _ _ (⟨(Below.al (Below.al hW _) _), (ext_al (ext_al hB)), C0, hC0, (ext_al (ext_al hR))⟩) (fun hHeld => ?_)
  clear hK K'
  try simp only [Act.put, List.getElem_toArray, List.getElem_cons_succ, List.getElem_cons_zero, List.setIfInBounds_toArray, List.set_cons_zero, List.set_cons_succ]
  clear hW hB hC0 hR
  obtain ⟨hW, hB, C0, hC0, hR⟩ := id hHeld
  refine wpAnyH_ready (rs := [4]) (by kernel_rfl) (by simp) ?_
  refine AllReadyH.cons rfl (fun K' hK => ?_) AllReadyH.nil
  rw [if_pos (by rfl)]
  simp only [List.getElem_toArray, List.getElem_cons_succ, List.getElem_cons_zero]
  refine wp_store_by 31 (.tmp 2) (.tmp 66) rfl _ _ rfl rfl (store8 _ _ C0 163 0 0 0 0 0 0 0 _ hR hC0) ?_
  refine hK.out _ _ (⟨below_setRow hW (by omega) _, (setRow_other _ _ _ _ (by omega)).trans hB, _, rfl, setRow_heap _ _ _ _ _ _ hR⟩) (fun hHeld => ?_)
  clear hK K'
  try simp only [Act.put, List.getElem_toArray, List.getElem_cons_succ, List.getElem_cons_zero, List.setIfInBounds_toArray, List.set_cons_zero, List.set_cons_succ]
  refine wpAnyH_take (i := 5) (v := (.bool E)) rfl (by kernel_rfl) (by kernel_rfl) (by kernel_rfl) (fun _ _ _ h => h) (Or.inl ⟨by rfl, ?_⟩) (by assumption) ?_
  · intro w9 hSw
    try dsimp only at hSw
    go_simp
    all_goals try decide
    all_goals try assumption
    all_goals try omega
  try simp only [Act.put, List.getElem_toArray, List.getElem_cons_succ, List.getElem_cons_zero, List.setIfInBounds_toArray, List.set_cons_zero, List.set_cons_succ]
  refine wpAnyH_done (by kernel_rfl) ?_ _
  have hc := fun j => cell_of_row _ (w.heap.size + 1) j _ _ _ (setRow_heap _ _ _ (ar8 163 0 0 0 0 0 0 0) _ _ hR)
  have hb := below_setRow hW (Nat.le_succ w.heap.size) (ar8 163 0 0 0 0 0 0 0)
  clear hHeld hW hB hC0
  go_wp2_with fail
  refine bodyPost_ret (v := .tuple #[arr8 163 0 0 0 0 0 0 0, .bool E]) ?_ rfl ⟨⟨163, 0, 0, 0, 0, 0, 0, 0⟩, E, rfl, ?_, ?_⟩
  · simp [results, Try.results24, go_sem, hc]
  · exact hO.out
  · exact hb

set_option linter.unusedSimpArgs false in
set_option maxHeartbeats 4000000 in
set_option maxRecDepth 100000 in
theorem rask_k11 (C : Cm) (_ok : C.Ok) (hk : C.k = 11) (a : Option Addr) (cap : Nat) (w : World) (hr : Row w a C.d.length C.d) :
    Calls Try.prog 24 #[C.v a C.d.length cap] w (QPost w (askP C)) := by
  have hA : askP C = wBare 161 C := by unfold askP; simp [hk]
  rw [hA]
  clear hA
  have HS : Hid (∀ W, Below w.heap.size w W → Calls Try.prog 18 #[cmV C.k 0 0 false 0 false none 0 0 false false false 0 0 0 0 0, cmV C.k C.i C.s C.z C.n C.q a C.d.length cap C.t C.l C.c C.b C.e C.u C.m C.o] W fun r w' => r = .returned (.bool (C.only 0)) ∧ ∃ o1 o2, w' = (W.alloc o1).alloc o2) := fun W hb => by
    have := same_any ⟨C.k, 0, 0, false, 0, false, [], false, false, false, 0, 0, 0, 0, 0⟩ C none 0 0 a C.d.length cap W (row_nil W) (hr.next hb)
    rw [bare_0] at this
    exact this
  have KL : Hid (∀ W, Calls Try.prog 33 #[.int .i64 161] W fun e w' => e = .returned (arr8 161 0 0 0 0 0 0 0) ∧ ∃ o1 o2, w' = (W.alloc o1).alloc o2) := fun W => plain_any 161 W
  have hO : Hid (wBare 161 C = if C.only 0 then some ⟨161, 0, 0, 0, 0, 0, 0, 0⟩ else none) := rfl
  generalize C.only 0 = E at HS hO
  generalize wBare 161 C = O at hO ⊢
  clear hr _ok
  generalize C.d.length = len at HS ⊢
  obtain ⟨k, i, s, z, n, q, d, t, l, c, b, e, u, m, o⟩ := C
  dsimp only at HS hO hk ⊢
  subst hk
  go_enter Try.func24, Try.ntmps24
  go_wp2_with fail
  refine wp_region_held_drew (S := fun x => Below w.heap.size w x ∧ x.heap[w.heap.size]? = some (.cells (cmC 11 i s z n q a len cap t l c b e u m o) 36 (0, 0)) ∧ ∃ C : Array Value, C.size = 8 ∧ x.heap[w.heap.size + 1]? = some (.cells C 31 (0, 0))) (by kernel_rfl) (⟨Below.drew (Below.al (Below.al (Below.refl _ _) _) _), (heap_drew _ _).trans (ext_al (heap_new _ _)), ar8 0 0 0 0 0 0 0 0, rfl, (heap_drew _ _).trans (heap_at _ _ _ (by simp))⟩) (fun hHeld => ?_)
  obtain ⟨hW, hB, C0, hC0, hR⟩ := id hHeld
  refine wpAnyH_take (i := 1) (v := (cmV 11 0 0 false 0 false none 0 0 false false false 0 0 0 0 0)) rfl (by kernel_rfl) (by kernel_rfl) (by kernel_rfl) (fun _ _ _ h => h) (Or.inl ⟨by rfl, ?_⟩) (by assumption) ?_
  · intro w9 hSw
    try dsimp only at hSw
    go_simp
    all_goals try decide
    all_goals try assumption
    all_goals try omega
  try simp only [Act.put, List.getElem_toArray, List.getElem_cons_succ, List.getElem_cons_zero, List.setIfInBounds_toArray, List.set_cons_zero, List.set_cons_succ]
  refine wpAnyH_take (i := 2) (v := (cmV 11 i s z n q a len cap t l c b e u m o)) rfl (by kernel_rfl) (by kernel_rfl) (by kernel_rfl) (fun _ _ _ h => h) (Or.inl ⟨by rfl, ?_⟩) (by assumption) ?_
  · intro w9 hSw
    try dsimp only at hSw
    exact ex_load 36 (.tmp 1) rfl _ _ rfl (loadRC _ _ _ _ _ _ _ _ _ _ _ _ _ _ _ _ _ _ _ _ hSw.2.1)
  try simp only [Act.put, List.getElem_toArray, List.getElem_cons_succ, List.getElem_cons_zero, List.setIfInBounds_toArray, List.set_cons_zero, List.set_cons_succ]
  refine wpAnyH_ready (rs := [0]) (by kernel_rfl) (by simp) ?_
  refine AllReadyH.cons rfl (fun K' hK => ?_) AllReadyH.nil
  rw [if_pos (by rfl)]
  simp only [List.getElem_toArray, List.getElem_cons_succ, List.getElem_cons_zero]
  go_wp2_with fail
  refine (KL.out _).mono ?_
  rintro r ww ⟨rfl, v50_0, v50_1, rfl⟩
  try go_wp2_with fail
  refine hK.out _ _ (⟨(Below.al (Below.al hW _) _), (ext_al (ext_al hB)), C0, hC0, (ext_al (ext_al hR))⟩) (fun hHeld => ?_)
  clear hK K'
  try simp only [Act.put, List.getElem_toArray, List.getElem_cons_succ, List.getElem_cons_zero, List.setIfInBounds_toArray, List.set_cons_zero, List.set_cons_succ]
  clear hW hB hC0 hR
  obtain ⟨hW, hB, C0, hC0, hR⟩ := id hHeld
  refine wpAnyH_ready (rs := [3]) (by kernel_rfl) (by simp) ?_
  refine AllReadyH.cons rfl (fun K' hK => ?_) AllReadyH.nil
  rw [if_pos (by rfl)]
  simp only [List.getElem_toArray, List.getElem_cons_succ, List.getElem_cons_zero]
  go_wp2_with fail
  refine (HS.out _ hW).mono ?_
  rintro r ww ⟨rfl, v51_0, v51_1, rfl⟩
  try go_wp2_with fail
  refine hK.out _ _ (⟨(Below.al (Below.al hW _) _), (ext_al (ext_al hB)), C0, hC0, (ext_al (ext_al hR))⟩) (fun hHeld => ?_)
  clear hK K'
  try simp only [Act.put, List.getElem_toArray, List.getElem_cons_succ, List.getElem_cons_zero, List.setIfInBounds_toArray, List.set_cons_zero, List.set_cons_succ]
  clear hW hB hC0 hR
  obtain ⟨hW, hB, C0, hC0, hR⟩ := id hHeld
  refine wpAnyH_ready (rs := [4]) (by kernel_rfl) (by simp) ?_
  refine AllReadyH.cons rfl (fun K' hK => ?_) AllReadyH.nil
  rw [if_pos (by rfl)]
  simp only [List.getElem_toArray, List.getElem_cons_succ, List.getElem_cons_zero]
  refine wp_store_by 31 (.tmp 2) (.tmp 78) rfl _ _ rfl rfl (store8 _ _ C0 161 0 0 0 0 0 0 0 _ hR hC0) ?_
  refine hK.out _ _ (⟨below_setRow hW (by omega) _, (setRow_other _ _ _ _ (by omega)).trans hB, _, rfl, setRow_heap _ _ _ _ _ _ hR⟩) (fun hHeld => ?_)
  clear hK K'
  try simp only [Act.put, List.getElem_toArray, List.getElem_cons_succ, List.getElem_cons_zero, List.setIfInBounds_toArray, List.set_cons_zero, List.set_cons_succ]
  refine wpAnyH_take (i := 5) (v := (.bool E)) rfl (by kernel_rfl) (by kernel_rfl) (by kernel_rfl) (fun _ _ _ h => h) (Or.inl ⟨by rfl, ?_⟩) (by assumption) ?_
  · intro w9 hSw
    try dsimp only at hSw
    go_simp
    all_goals try decide
    all_goals try assumption
    all_goals try omega
  try simp only [Act.put, List.getElem_toArray, List.getElem_cons_succ, List.getElem_cons_zero, List.setIfInBounds_toArray, List.set_cons_zero, List.set_cons_succ]
  refine wpAnyH_done (by kernel_rfl) ?_ _
  have hc := fun j => cell_of_row _ (w.heap.size + 1) j _ _ _ (setRow_heap _ _ _ (ar8 161 0 0 0 0 0 0 0) _ _ hR)
  have hb := below_setRow hW (Nat.le_succ w.heap.size) (ar8 161 0 0 0 0 0 0 0)
  clear hHeld hW hB hC0
  go_wp2_with fail
  refine bodyPost_ret (v := .tuple #[arr8 161 0 0 0 0 0 0 0, .bool E]) ?_ rfl ⟨⟨161, 0, 0, 0, 0, 0, 0, 0⟩, E, rfl, ?_, ?_⟩
  · simp [results, Try.results24, go_sem, hc]
  · exact hO.out
  · exact hb

end Go.Proofs.Ytgpegnpjkkofaaa
namespace Go.Proofs.Ytgpegnpjkkofaaa
open Go.RowKit

set_option linter.unusedSimpArgs false in
set_option maxHeartbeats 4000000 in
set_option maxRecDepth 100000 in
theorem ranswer_k1 (C : Cm) (ok : C.Ok) (hk : C.k = 1) (a : Option Addr) (cap : Nat) (w : World) (hr : Row w a C.d.length C.d) :
    Calls Try.prog 25 #[C.v a C.d.length cap] w (QPost w (ansP C)) := by
  have hA : ansP C = wPlace 96 C := by unfold ansP; simp [hk]
  rw [hA]
  clear hA
  have HS : Hid (∀ W, Below w.heap.size w W → Calls Try.prog 18 #[cmV C.k C.i C.s false 0 false none 0 0 false false false 0 0 0 0 0, cmV C.k C.i C.s C.z C.n C.q a C.d.length cap C.t C.l C.c C.b C.e C.u C.m C.o] W fun r w' => r = .returned (.bool (C.only 1)) ∧ ∃ o1 o2, w' = (W.alloc o1).alloc o2) := fun W hb => by
    have := same_any ⟨C.k, C.i, C.s, false, 0, false, [], false, false, false, 0, 0, 0, 0, 0⟩ C none 0 0 a C.d.length cap W (row_nil W) (hr.next hb)
    rw [bare_1] at this
    exact this
  obtain ⟨x0, hx0⟩ : ∃ y, (96 : Int) % 256 = y := ⟨_, rfl⟩
  have KP : Hid (∀ W, Calls Try.prog 59 #[.int .i64 (96), .agg #[.int .u16 C.i, .int .u8 C.s]] W fun e w' => e = .returned (arr8 x0 (C.i % 256) (C.i / 256) C.s 0 0 0 0) ∧ ∃ o1 o2 o3 o4 o5, w' = ((((W.alloc o1).alloc o2).alloc o3).alloc o4).alloc o5) := fun W => hx0 ▸ placed_any (96) C.i C.s ok.i W
  have hO : Hid (wPlace 96 C = if C.only 1 then some ⟨x0, C.i % 256, C.i / 256, C.s, 0, 0, 0, 0⟩ else none) := by rw [← hx0]; rfl
  clear hx0
  generalize C.only 1 = E at HS hO
  generalize wPlace 96 C = O at hO ⊢
  clear hr ok
  generalize C.d.length = len at HS ⊢
  obtain ⟨k, i, s, z, n, q, d, t, l, c, b, e, u, m, o⟩ := C
  dsimp only at HS hO hk KP ⊢
  subst hk
  go_enter Try.func25, Try.ntmps25
  go_wp2_with fail
  refine wp_region_held_drew (S := fun x => Below w.heap.size w x ∧ x.heap[w.heap.size]? = some (.cells (cmC 1 i s z n q a len cap t l c b e u m o) 36 (0, 0)) ∧ ∃ C : Array Value, C.size = 8 ∧ x.heap[w.heap.size + 1]? = some (.cells C 31 (0, 0))) (by kernel_rfl) (⟨Below.drew (Below.al (Below.al (Below.refl _ _) _) _), (heap_drew _ _).trans (ext_al (heap_new _ _)), ar8 0 0 0 0 0 0 0 0, rfl, (heap_drew _ _).trans (heap_at _ _ _ (by simp))⟩) (fun hHeld => ?_)
  obtain ⟨hW, hB, C0, hC0, hR⟩ := id hHeld
  refine wpAnyH_take (i := 0) (v := (.pointer (some ⟨w.heap.size, 1, none⟩))) rfl (by kernel_rfl) (by kernel_rfl) (by kernel_rfl) (fun _ _ _ h => h) (Or.inl ⟨by rfl, ?_⟩) (by assumption) ?_
  · intro w9 hSw
    try dsimp only at hSw
    go_simp
    all_goals try decide
    all_goals try assumption
    all_goals try omega
  try simp only [Act.put, List.getElem_toArray, List.getElem_cons_succ, List.getElem_cons_zero, List.setIfInBounds_toArray, List.set_cons_zero, List.set_cons_succ]
  refine wpAnyH_take (i := 1) (v := (.agg #[.int .u16 i, .int .u8 s])) rfl (by kernel_rfl) (by kernel_rfl) (by kernel_rfl) (fun _ _ _ h => h) (Or.inl ⟨by rfl, ?_⟩) (by assumption) ?_
  · intro w9 hSw
    try dsimp only at hSw
    exact ex_load 24 (.tmp 8) rfl _ _ rfl (ldPl _ _ _ _ (by rw [cell_of_row _ _ 1 _ _ _ hSw.2.1]; rfl) (by rw [cell_of_row _ _ 2 _ _ _ hSw.2.1]; rfl))
  try simp only [Act.put, List.getElem_toArray, List.getElem_cons_succ, List.getElem_cons_zero, List.setIfInBounds_toArray, List.set_cons_zero, List.set_cons_succ]
  refine wpAnyH_take (i := 3) (v := (.pointer (some ⟨w.heap.size, 1, none⟩))) rfl (by kernel_rfl) (by kernel_rfl) (by kernel_rfl) (fun _ _ _ h => h) (Or.inl ⟨by rfl, ?_⟩) (by assumption) ?_
  · intro w9 hSw
    try dsimp only at hSw
    go_simp
    all_goals try decide
    all_goals try assumption
    all_goals try omega
  try simp only [Act.put, List.getElem_toArray, List.getElem_cons_succ, List.getElem_cons_zero, List.setIfInBounds_toArray, List.set_cons_zero, List.set_cons_succ]
  refine wpAnyH_take (i := 4) (v := (.agg #[.int .u16 i, .int .u8 s])) rfl (by kernel_rfl) (by kernel_rfl) (by kernel_rfl) (fun _ _ _ h => h) (Or.inl ⟨by rfl, ?_⟩) (by assumption) ?_
  · intro w9 hSw
    try dsimp only at hSw
    exact ex_load 24 (.tmp 11) rfl _ _ rfl (ldPl _ _ _ _ (by rw [cell_of_row _ _ 1 _ _ _ hSw.2.1]; rfl) (by rw [cell_of_row _ _ 2 _ _ _ hSw.2.1]; rfl))
  try simp only [Act.put, List.getElem_toArray, List.getElem_cons_succ, List.getElem_cons_zero, List.setIfInBounds_toArray, List.set_cons_zero, List.set_cons_succ]
  refine wpAnyH_take (i := 5) (v := (cmV 1 i s false 0 false none 0 0 false false false 0 0 0 0 0)) rfl (by kernel_rfl) (by kernel_rfl) (by kernel_rfl) (fun _ _ _ h => h) (Or.inl ⟨by rfl, ?_⟩) (by assumption) ?_
  · intro w9 hSw
    try dsimp only at hSw
    go_simp
    all_goals try decide
    all_goals try assumption
    all_goals try omega
  try simp only [Act.put, List.getElem_toArray, List.getElem_cons_succ, List.getElem_cons_zero, List.setIfInBounds_toArray, List.set_cons_zero, List.set_cons_succ]
  refine wpAnyH_take (i := 6) (v := (cmV 1 i s z n q a len cap t l c b e u m o)) rfl (by kernel_rfl) (by kernel_rfl) (by kernel_rfl) (fun _ _ _ h => h) (Or.inl ⟨by rfl, ?_⟩) (by assumption) ?_
  · intro w9 hSw
    try dsimp only at hSw
    exact ex_load 36 (.tmp 1) rfl _ _ rfl (loadRC _ _ _ _ _ _ _ _ _ _ _ _ _ _ _ _ _ _ _ _ hSw.2.1)
  try simp only [Act.put, List.getElem_toArray, List.getElem_cons_succ, List.getElem_cons_zero, List.setIfInBounds_toArray, List.set_cons_zero, List.set_cons_succ]
  refine wpAnyH_ready (rs := [2]) (by kernel_rfl) (by simp) ?_
  refine AllReadyH.cons rfl (fun K' hK => ?_) AllReadyH.nil
  rw [if_pos (by rfl)]
  simp only [List.getElem_toArray, List.getElem_cons_succ, List.getElem_cons_zero]
  go_wp2_with fail
  refine (KP.out _).mono ?_
  rintro r ww ⟨rfl, v52_0, v52_1, v52_2, v52_3, v52_4, rfl⟩
  try go_wp2_with fail
  refine hK.out _ _ (⟨(Below.al (Below.al (Below.al (Below.al (Below.al hW _) _) _) _) _), (ext_al (ext_al (ext_al (ext_al (ext_al hB))))), C0, hC0, (ext_al (ext_al (ext_al (ext_al (ext_al hR)))))⟩) (fun hHeld => ?_)
  clear hK K'
  try simp only [Act.put, List.getElem_toArray, List.getElem_cons_succ, List.getElem_cons_zero, List.setIfInBounds_toArray, List.set_cons_zero, List.set_cons_succ]
  clear hW hB hC0 hR
  obtain ⟨hW, hB, C0, hC0, hR⟩ := id hHeld
  refine wpAnyH_ready (rs := [7]) (by kernel_rfl) (by simp) ?_
  refine AllReadyH.cons rfl (fun K' hK => ?_) AllReadyH.nil
  rw [if_pos (by rfl)]
  simp only [List.getElem_toArray, List.getElem_cons_succ, List.getElem_cons_zero]
  go_wp2_with fail
  refine (HS.out _ hW).mono ?_
  rintro r ww ⟨rfl, v53_0, v53_1, rfl⟩
  try go_wp2_with fail
  refine hK.out _ _ (⟨(Below.al (Below.al hW _) _), (ext_al (ext_al hB)), C0, hC0, (ext_al (ext_al hR))⟩) (fun hHeld => ?_)
  clear hK K'
  try simp only [Act.put, List.getElem_toArray, List.getElem_cons_succ, List.getElem_cons_zero, List.setIfInBounds_toArray, List.set_cons_zero, List.set_cons_succ]
  clear hW hB hC0 hR
  obtain ⟨hW, hB, C0, hC0, hR⟩ := id hHeld
  refine wpAnyH_ready (rs := [8]) (by kernel_rfl) (by simp) ?_
  refine AllReadyH.cons rfl (fun K' hK => ?_) AllReadyH.nil
  rw [if_pos (by rfl)]
  simp only [List.getElem_toArray, List.getElem_cons_succ, List.getElem_cons_zero]
  refine wp_store_by 31 (.tmp 2) (.tmp 10) rfl _ _ rfl rfl (store8 _ _ C0 x0 (i % 256) (i / 256) s 0 0 0 0 _ hR hC0) ?_
  refine hK.out _ _ (⟨below_setRow hW (by omega) _, (setRow_other _ _ _ _ (by omega)).trans hB, _, rfl, setRow_heap _ _ _ _ _ _ hR⟩) (fun hHeld => ?_)
  clear hK K'
  try simp only [Act.put, List.getElem_toArray, List.getElem_cons_succ, List.getElem_cons_zero, List.setIfInBounds_toArray, List.set_cons_zero, List.set_cons_succ]
  refine wpAnyH_take (i := 9) (v := (.bool E)) rfl (by kernel_rfl) (by kernel_rfl) (by kernel_rfl) (fun _ _ _ h => h) (Or.inl ⟨by rfl, ?_⟩) (by assumption) ?_
  · intro w9 hSw
    try dsimp only at hSw
    go_simp
    all_goals try decide
    all_goals try assumption
    all_goals try omega
  try simp only [Act.put, List.getElem_toArray, List.getElem_cons_succ, List.getElem_cons_zero, List.setIfInBounds_toArray, List.set_cons_zero, List.set_cons_succ]
  refine wpAnyH_done (by kernel_rfl) ?_ _
  have hc := fun j => cell_of_row _ (w.heap.size + 1) j _ _ _ (setRow_heap _ _ _ (ar8 x0 (i % 256) (i / 256) s 0 0 0 0) _ _ hR)
  have hb := below_setRow hW (Nat.le_succ w.heap.size) (ar8 x0 (i % 256) (i / 256) s 0 0 0 0)
  clear hHeld hW hB hC0
  go_wp2_with fail
  refine bodyPost_ret (v := .tuple #[arr8 x0 (i % 256) (i / 256) s 0 0 0 0, .bool E]) ?_ rfl ⟨⟨x0, (i % 256), (i / 256), s, 0, 0, 0, 0⟩, E, rfl, ?_, ?_⟩
  · simp [results, Try.results25, go_sem, hc]
  · exact hO.out
  · exact hb

set_option linter.unusedSimpArgs false in
set_option maxHeartbeats 4000000 in
set_option maxRecDepth 100000 in
theorem ranswer_k2 (C : Cm) (_ok : C.Ok) (hk : C.k = 2) (a : Option Addr) (cap : Nat) (w : World) (hr : Row w a C.d.length C.d) :
    Calls Try.prog 25 #[C.v a C.d.length cap] w (QPost w (ansP C)) := by
  have hA : ansP C = wToggle 32 C := by unfold ansP; simp [hk]
  rw [hA]
  clear hA
  have HS : Hid (∀ W, Below w.heap.size w W → Calls Try.prog 18 #[cmV C.k 0 0 false 0 false none 0 0 C.t false false 0 0 0 0 0, cmV C.k C.i C.s C.z C.n C.q a C.d.length cap C.t C.l C.c C.b C.e C.u C.m C.o] W fun r w' => r = .returned (.bool (C.only 32)) ∧ ∃ o1 o2, w' = (W.alloc o1).alloc o2) := fun W hb => by
    have := same_any ⟨C.k, 0, 0, false, 0, false, [], C.t, false, false, 0, 0, 0, 0, 0⟩ C none 0 0 a C.d.length cap W (row_nil W) (hr.next hb)
    rw [bare_32] at this
    exact this
  obtain ⟨BT, hBT, lBT, gBT⟩ : ∃ y, bitn C.t 16 = y ∧ 0 ≤ y ∧ y ≤ 16 := ⟨_, rfl, by unfold bitn; split <;> omega, by unfold bitn; split <;> omega⟩
  have KBT : Hid (∀ W, Calls Try.prog 34 #[.bool C.t, .int .i64 16] W fun e w' => e = .returned (.int .i64 BT) ∧ w' = W) := fun W => hBT ▸ rbit_any C.t 16 W
  obtain ⟨x0, hx0⟩ : ∃ y, (32 + BT) % 256 = y := ⟨_, rfl⟩
  have KL : Hid (∀ W, Calls Try.prog 33 #[.int .i64 (32 + BT)] W fun e w' => e = .returned (arr8 x0 0 0 0 0 0 0 0) ∧ ∃ o1 o2, w' = (W.alloc o1).alloc o2) := fun W => hx0 ▸ plain_any (32 + BT) W
  have hO : Hid (wToggle 32 C = if C.only 32 then some ⟨x0, 0, 0, 0, 0, 0, 0, 0⟩ else none) := by
    have e3 : x0 = bits .or .u8 32 (bitv C.t 16) := by rw [← hx0, ← hBT]; cases C.t <;> decide
    rw [e3]; rfl
  clear hx0 hBT
  generalize C.only 32 = E at HS hO
  generalize wToggle 32 C = O at hO ⊢
  clear hr _ok
  generalize C.d.length = len at HS ⊢
  obtain ⟨k, i, s, z, n, q, d, t, l, c, b, e, u, m, o⟩ := C
  dsimp only at HS hO hk KBT ⊢
  subst hk
  go_enter Try.func25, Try.ntmps25
  go_wp2_with fail
  refine wp_region_held_drew (S := fun x => Below w.heap.size w x ∧ x.heap[w.heap.size]? = some (.cells (cmC 2 i s z n q a len cap t l c b e u m o) 36 (0, 0)) ∧ ∃ C : Array Value, C.size = 8 ∧ x.heap[w.heap.size + 1]? = some (.cells C 31 (0, 0))) (by kernel_rfl) (⟨Below.drew (Below.al (Below.al (Below.refl _ _) _) _), (heap_drew _ _).trans (ext_al (heap_new _ _)), ar8 0 0 0 0 0 0 0 0, rfl, (heap_drew _ _).trans (heap_at _ _ _ (by simp))⟩) (fun hHeld => ?_)
  obtain ⟨hW, hB, C0, hC0, hR⟩ := id hHeld
  refine wpAnyH_take (i := 0) (v := (.pointer (some ⟨w.heap.size, 7, none⟩))) rfl (by kernel_rfl) (by kernel_rfl) (by kernel_rfl) (fun _ _ _ h => h) (Or.inl ⟨by rfl, ?_⟩) (by assumption) ?_
  · intro w9 hSw
    try dsimp only at hSw
    go_simp
    all_goals try decide
    all_goals try assumption
    all_goals try omega
  try simp only [Act.put, List.getElem_toArray, List.getElem_cons_succ, List.getElem_cons_zero, List.setIfInBounds_toArray, List.set_cons_zero, List.set_cons_succ]
  refine wpAnyH_take (i := 1) (v := (.bool t)) rfl (by kernel_rfl) (by kernel_rfl) (by kernel_rfl) (fun _ _ _ h => h) (Or.inl ⟨by rfl, ?_⟩) (by assumption) ?_
  · intro w9 hSw
    try dsimp only at hSw
    exact ex_load 4 (.tmp 18) rfl _ _ rfl (ld_4 _ _ _ _ (by rw [cell_of_row _ _ 7 _ _ _ hSw.2.1]; rfl))
  try simp only [Act.put, List.getElem_toArray, List.getElem_cons_succ, List.getElem_cons_zero, List.setIfInBounds_toArray, List.set_cons_zero, List.set_cons_succ]
  refine wpAnyH_take (i := 5) (v := (.pointer (some ⟨w.heap.size, 7, none⟩))) rfl (by kernel_rfl) (by kernel_rfl) (by kernel_rfl) (fun _ _ _ h => h) (Or.inl ⟨by rfl, ?_⟩) (by assumption) ?_
  · intro w9 hSw
    try dsimp only at hSw
    go_simp
    all_goals try decide
    all_goals try assumption
    all_goals try omega
  try simp only [Act.put, List.getElem_toArray, List.getElem_cons_succ, List.getElem_cons_zero, List.setIfInBounds_toArray, List.set_cons_zero, List.set_cons_succ]
  refine wpAnyH_take (i := 6) (v := (.bool t)) rfl (by kernel_rfl) (by kernel_rfl) (by kernel_rfl) (fun _ _ _ h => h) (Or.inl ⟨by rfl, ?_⟩) (by assumption) ?_
  · intro w9 hSw
    try dsimp only at hSw
    exact ex_load 4 (.tmp 23) rfl _ _ rfl (ld_4 _ _ _ _ (by rw [cell_of_row _ _ 7 _ _ _ hSw.2.1]; rfl))
  try simp only [Act.put, List.getElem_toArray, List.getElem_cons_succ, List.getElem_cons_zero, List.setIfInBounds_toArray, List.set_cons_zero, List.set_cons_succ]
  refine wpAnyH_take (i := 7) (v := (cmV 2 0 0 false 0 false none 0 0 t false false 0 0 0 0 0)) rfl (by kernel_rfl) (by kernel_rfl) (by kernel_rfl) (fun _ _ _ h => h) (Or.inl ⟨by rfl, ?_⟩) (by assumption) ?_
  · intro w9 hSw
    try dsimp only at hSw
    go_simp
    all_goals try decide
    all_goals try assumption
    all_goals try omega
  try simp only [Act.put, List.getElem_toArray, List.getElem_cons_succ, List.getElem_cons_zero, List.setIfInBounds_toArray, List.set_cons_zero, List.set_cons_succ]
  refine wpAnyH_take (i := 8) (v := (cmV 2 i s z n q a len cap t l c b e u m o)) rfl (by kernel_rfl) (by kernel_rfl) (by kernel_rfl) (fun _ _ _ h => h) (Or.inl ⟨by rfl, ?_⟩) (by assumption) ?_
  · intro w9 hSw
    try dsimp only at hSw
    exact ex_load 36 (.tmp 1) rfl _ _ rfl (loadRC _ _ _ _ _ _ _ _ _ _ _ _ _ _ _ _ _ _ _ _ hSw.2.1)
  try simp only [Act.put, List.getElem_toArray, List.getElem_cons_succ, List.getElem_cons_zero, List.setIfInBounds_toArray, List.set_cons_zero, List.set_cons_succ]
  refine wpAnyH_ready (rs := [2]) (by kernel_rfl) (by simp) ?_
  refine AllReadyH.cons rfl (fun K' hK => ?_) AllReadyH.nil
  rw [if_pos (by rfl)]
  simp only [List.getElem_toArray, List.getElem_cons_succ, List.getElem_cons_zero]
  go_wp2_with fail
  refine (KBT.out _).mono ?_
  rintro r ww ⟨rfl, rfl⟩
  try go_wp2_with fail
  refine hK.out _ _ (⟨hW, hB, C0, hC0, hR⟩) (fun hHeld => ?_)
  clear hK K'
  try simp only [Act.put, List.getElem_toArray, List.getElem_cons_succ, List.getElem_cons_zero, List.setIfInBounds_toArray, List.set_cons_zero, List.set_cons_succ]
  clear hW hB hC0 hR
  obtain ⟨hW, hB, C0, hC0, hR⟩ := id hHeld
  refine wpAnyH_take (i := 3) (v := (.int .i64 (32 + BT))) rfl (by kernel_rfl) (by kernel_rfl) (by kernel_rfl) (fun _ _ _ h => h) (Or.inl ⟨by rfl, ?_⟩) (by assumption) ?_
  · intro w9 hSw
    try dsimp only at hSw
    go_simp
    all_goals try (rw [wrapI64 _ (by omega) (by omega)])
    all_goals try decide
    all_goals try omega
  try simp only [Act.put, List.getElem_toArray, List.getElem_cons_succ, List.getElem_cons_zero, List.setIfInBounds_toArray, List.set_cons_zero, List.set_cons_succ]
  refine wpAnyH_ready (rs := [4]) (by kernel_rfl) (by simp) ?_
  refine AllReadyH.cons rfl (fun K' hK => ?_) AllReadyH.nil
  rw [if_pos (by rfl)]
  simp only [List.getElem_toArray, List.getElem_cons_succ, List.getElem_cons_zero]
  go_wp2_with fail
  refine (KL.out _).mono ?_
  rintro r ww ⟨rfl, v54_0, v54_1, rfl⟩
  try go_wp2_with fail
  refine hK.out _ _ (⟨(Below.al (Below.al hW _) _), (ext_al (ext_al hB)), C0, hC0, (ext_al (ext_al hR))⟩) (fun hHeld => ?_)
  clear hK K'
  try simp only [Act.put, List.getElem_toArray, List.getElem_cons_succ, List.getElem_cons_zero, List.setIfInBounds_toArray, List.set_cons_zero, List.set_cons_succ]
  clear hW hB hC0 hR
  obtain ⟨hW, hB, C0, hC0, hR⟩ := id hHeld
  refine wpAnyH_ready (rs := [9]) (by kernel_rfl) (by simp) ?_
  refine AllReadyH.cons rfl (fun K' hK => ?_) AllReadyH.nil
  rw [if_pos (by rfl)]
  simp only [List.getElem_toArray, List.getElem_cons_succ, List.getElem_cons_zero]
  go_wp2_with fail
  refine (HS.out _ hW).mono ?_
  rintro r ww ⟨rfl, v55_0, v55_1, rfl⟩
  try go_wp2_with fail
  refine hK.out _ _ (⟨(Below.al (Below.al hW _) _), (ext_al (ext_al hB)), C0, hC0, (ext_al (ext_al hR))⟩) (fun hHeld => ?_)
  clear hK K'
  try simp only [Act.put, List.getElem_toArray, List.getElem_cons_succ, List.getElem_cons_zero, List.setIfInBounds_toArray, List.set_cons_zero, List.set_cons_succ]
  clear hW hB hC0 hR
  obtain ⟨hW, hB, C0, hC0, hR⟩ := id hHeld
  refine wpAnyH_ready (rs := [10]) (by kernel_rfl) (by simp) ?_
  refine AllReadyH.cons rfl (fun K' hK => ?_) AllReadyH.nil
  rw [if_pos (by rfl)]
  simp only [List.getElem_toArray, List.getElem_cons_succ, List.getElem_cons_zero]
  refine wp_store_by 31 (.tmp 2) (.tmp 22) rfl _ _ rfl rfl (store8 _ _ C0 x0 0 0 0 0 0 0 0 _ hR hC0) ?_
  refine hK.out _ _ (⟨below_setRow hW (by omega) _, (setRow_other _ _ _ _ (by omega)).trans hB, _, rfl, setRow_heap _ _ _ _ _ _ hR⟩) (fun hHeld => ?_)
  clear hK K'
  try simp only [Act.put, List.getElem_toArray, List.getElem_cons_succ, List.getElem_cons_zero, List.setIfInBounds_toArray, List.set_cons_zero, List.set_cons_succ]
  refine wpAnyH_take (i := 11) (v := (.bool E)) rfl (by kernel_rfl) (by kernel_rfl) (by kernel_rfl) (fun _ _ _ h => h) (Or.inl ⟨by rfl, ?_⟩) (by assumption) ?_
  · intro w9 hSw
    try dsimp only at hSw
    go_simp
    all_goals try decide
    all_goals try assumption
    all_goals try omega
  try simp only [Act.put, List.getElem_toArray, List.getElem_cons_succ, List.getElem_cons_zero, List.setIfInBounds_toArray, List.set_cons_zero, List.set_cons_succ]
  refine wpAnyH_done (by kernel_rfl) ?_ _
  have hc := fun j => cell_of_row _ (w.heap.size + 1) j _ _ _ (setRow_heap _ _ _ (ar8 x0 0 0 0 0 0 0 0) _ _ hR)
  have hb := below_setRow hW (Nat.le_succ w.heap.size) (ar8 x0 0 0 0 0 0 0 0)
  clear hHeld hW hB hC0
  go_wp2_with fail
  refine bodyPost_ret (v := .tuple #[arr8 x0 0 0 0 0 0 0 0, .bool E]) ?_ rfl ⟨⟨x0, 0, 0, 0, 0, 0, 0, 0⟩, E, rfl, ?_, ?_⟩
  · simp [results, Try.results25, go_sem, hc]
  · exact hO.out
  · exact hb

set_option linter.unusedSimpArgs false in
set_option maxHeartbeats 4000000 in
set_option maxRecDepth 100000 in
theorem ranswer_k7 (C : Cm) (_ok : C.Ok) (hk : C.k = 7) (a : Option Addr) (cap : Nat) (w : World) (hr : Row w a C.d.length C.d) :
    Calls Try.prog 25 #[C.v a C.d.length cap] w (QPost w (ansP C)) := by
  have hA : ansP C = wBare 161 C := by unfold ansP; simp [hk]
  rw [hA]
  clear hA
  have HS : Hid (∀ W, Below w.heap.size w W → Calls Try.prog 18 #[cmV C.k 0 0 false 0 false none 0 0 false false false 0 0 0 0 0, cmV C.k C.i C.s C.z C.n C.q a C.d.length cap C.t C.l C.c C.b C.e C.u C.m C.o] W fun r w' => r = .returned (.bool (C.only 0)) ∧ ∃ o1 o2, w' = (W.alloc o1).alloc o2) := fun W hb => by
    have := same_any ⟨C.k, 0, 0, false, 0, false, [], false, false, false, 0, 0, 0, 0, 0⟩ C none 0 0 a C.d.length cap W (row_nil W) (hr.next hb)
    rw [bare_0] at this
    exact this
  have KL : Hid (∀ W, Calls Try.prog 33 #[.int .i64 161] W fun e w' => e = .returned (arr8 161 0 0 0 0 0 0 0) ∧ ∃ o1 o2, w' = (W.alloc o1).alloc o2) := fun W => plain_any 161 W
  have hO : Hid (wBare 161 C = if C.only 0 then some ⟨161, 0, 0, 0, 0, 0, 0, 0⟩ else none) := rfl
  generalize C.only 0 = E at HS hO
  generalize wBare 161 C = O at hO ⊢
  clear hr _ok
  generalize C.d.length = len at HS ⊢
  obtain ⟨k, i, s, z, n, q, d, t, l, c, b, e, u, m, o⟩ := C
  dsimp only at HS hO hk ⊢
  subst hk
  go_enter Try.func25, Try.ntmps25
  go_wp2_with fail
  refine wp_region_held_drew (S := fun x => Below w.heap.size w x ∧ x.heap[w.heap.size]? = some (.cells (cmC 7 i s z n q a len cap t l c b e u m o) 36 (0, 0)) ∧ ∃ C : Array Value, C.size = 8 ∧ x.heap[w.heap.size + 1]? = some (.cells C 31 (0, 0))) (by kernel_rfl) (⟨Below.drew (Below.al (Below.al (Below.refl _ _) _) _), (heap_drew _ _).trans (ext_al (heap_new _ _)), ar8 0 0 0 0 0 0 0 0, rfl, (heap_drew _ _).trans (heap_at _ _ _ (by simp))⟩) (fun hHeld => ?_)
  obtain ⟨hW, hB, C0, hC0, hR⟩ := id hHeld
  refine wpAnyH_take (i := 1) (v := (cmV 7 0 0 false 0 false none 0 0 false false false 0 0 0 0 0)) rfl (by kernel_rfl) (by kernel_rfl) (by kernel_rfl) (fun _ _ _ h => h) (Or.inl ⟨by rfl, ?_⟩) (by assumption) ?_
  · intro w9 hSw
    try dsimp only at hSw
    go_simp
    all_goals try decide
    all_goals try assumption
    all_goals try omega
  try simp only [Act.put, List.getElem_toArray, List.getElem_cons_succ, List.getElem_cons_zero, List.setIfInBounds_toArray, List.set_cons_zero, List.set_cons_succ]
  refine wpAnyH_take (i := 2) (v := (cmV 7 i s z n q a len cap t l c b e u m o)) rfl (by kernel_rfl) (by kernel_rfl) (by kernel_rfl) (fun _ _ _ h => h) (Or.inl ⟨by rfl, ?_⟩) (by assumption) ?_
  · intro w9 hSw
    try dsimp only at hSw
    exact ex_load 36 (.tmp 1) rfl _ _ rfl (loadRC _ _ _ _ _ _ _ _ _ _ _ _ _ _ _ _ _ _ _ _ hSw.2.1)
  try simp only [Act.put, List.getElem_toArray, List.getElem_cons_succ, List.getElem_cons_zero, List.setIfInBounds_toArray, List.set_cons_zero, List.set_cons_succ]
  refine wpAnyH_ready (rs := [0]) (by kernel_rfl) (by simp) ?_
  refine AllReadyH.cons rfl (fun K' hK => ?_) AllReadyH.nil
  rw [if_pos (by rfl)]
  simp only [List.getElem_toArray, List.getElem_cons_succ, List.getElem_cons_zero]
  go_wp2_with fail
  refine (KL.out _).mono ?_
  rintro r ww ⟨rfl, v56_0, v56_1, rfl⟩
  try go_wp2_with fail
  refine hK.out _ _ (⟨(Below.al (Below.al hW _) _), (ext_al (ext_al hB)), C0, hC0, (ext_al (ext_al hR))⟩) (fun hHeld => ?_)
  clear hK K'
  try simp only [Act.put, List.getElem_toArray, List.getElem_cons_succ, List.getElem_cons_zero, List.setIfInBounds_toArray, List.set_cons_zero, List.set_cons_succ]
  clear hW hB hC0 hR
  obtain ⟨hW, hB, C0, hC0, hR⟩ := id hHeld
  refine wpAnyH_ready (rs := [3]) (by kernel_rfl) (by simp) ?_
  refine AllReadyH.cons rfl (fun K' hK => ?_) AllReadyH.nil
  rw [if_pos (by rfl)]
  simp only [List.getElem_toArray, List.getElem_cons_succ, List.getElem_cons_zero]
  go_wp2_with fail
  refine (HS.out _ hW).mono ?_
  rintro r ww ⟨rfl, v57_0, v57_1, rfl⟩
  try go_wp2_with fail
  refine hK.out _ _ (⟨(Below.al (Below.al hW _) _), (ext_al (ext_al hB)), C0, hC0, (ext_al (ext_al hR))⟩) (fun hHeld => ?_)
  clear hK K'
  try simp only [Act.put, List.getElem_toArray, List.getElem_cons_succ, List.getElem_cons_zero, List.setIfInBounds_toArray, List.set_cons_zero, List.set_cons_succ]
  clear hW hB hC0 hR
  obtain ⟨hW, hB, C0, hC0, hR⟩ := id hHeld
  refine wpAnyH_ready (rs := [4]) (by kernel_rfl) (by simp) ?_
  refine AllReadyH.cons rfl (fun K' hK => ?_) AllReadyH.nil
  rw [if_pos (by rfl)]
  simp only [List.getElem_toArray, List.getElem_cons_succ, List.getElem_cons_zero]
  refine wp_store_by 31 (.tmp 2) (.tmp 54) rfl _ _ rfl rfl (store8 _ _ C0 161 0 0 0 0 0 0 0 _ hR hC0) ?_
  refine hK.out _ _ (⟨below_setRow hW (by omega) _, (setRow_other _ _ _ _ (by omega)).trans hB, _, rfl, setRow_heap _ _ _ _ _ _ hR⟩) (fun hHeld => ?_)
  clear hK K'
  try simp only [Act.put, List.getElem_toArray, List.getElem_cons_succ, List.getElem_cons_zero, List.setIfInBounds_toArray, List.set_cons_zero, List.set_cons_succ]
  refine wpAnyH_take (i := 5) (v := (.bool E)) rfl (by kernel_rfl) (by kernel_rfl) (by kernel_rfl) (fun _ _ _ h => h) (Or.inl ⟨by rfl, ?_⟩) (by assumption) ?_
  · intro w9 hSw
    try dsimp only at hSw
    go_simp
    all_goals try decide
    all_goals try assumption
    all_goals try omega
  try simp only [Act.put, List.getElem_toArray, List.getElem_cons_succ, List.getElem_cons_zero, List.setIfInBounds_toArray, List.set_cons_zero, List.set_cons_succ]
  refine wpAnyH_done (by kernel_rfl) ?_ _
  have hc := fun j => cell_of_row _ (w.heap.size + 1) j _ _ _ (setRow_heap _ _ _ (ar8 161 0 0 0 0 0 0 0) _ _ hR)
  have hb := below_setRow hW (Nat.le_succ w.heap.size) (ar8 161 0 0 0 0 0 0 0)
  clear hHeld hW hB hC0
  go_wp2_with fail
  refine bodyPost_ret (v := .tuple #[arr8 161 0 0 0 0 0 0 0, .bool E]) ?_ rfl ⟨⟨161, 0, 0, 0, 0, 0, 0, 0⟩, E, rfl, ?_, ?_⟩
  · simp [results, Try.results25, go_sem, hc]
  · exact hO.out
  · exact hb

end Go.Proofs.Ytgpegnpjkkofaaa
