/-
  The walk of the document's stop.
  The walk of the document's sized.
  The walk of the document's blocked.
  The walk of the document's summed.
-/
import Derived.Test.YtlnlejdjekbipaaRe
import Derived.Test.YtlnlejdjekbipaaTk9
import Derived.Test.YtlnlejdjekbipaaRi
import Derived.Deep.DeepCutAuto
namespace Go.Proofs.Ytlnlejdjekbipaa
open Go.RowKit

set_option linter.unusedSimpArgs false in
set_option maxHeartbeats 4000000 in
set_option maxRecDepth 100000 in
theorem rstop_any (C : Cm) (ok : C.Ok) (a : Option Addr) (cap : Nat) (w : World) (hr : Row w a C.d.length C.d) :
    Calls Try.prog 60 #[C.v a C.d.length cap] w (QPost w (wStop 128 C)) := by
  have HS : Hid (∀ W, Below w.heap.size w W → Calls Try.prog 18 #[cmV C.k C.i C.s false 0 false none 0 0 false false false 0 0 0 0 C.o, cmV C.k C.i C.s C.z C.n C.q a C.d.length cap C.t C.l C.c C.b C.e C.u C.m C.o] W fun r w' => r = .returned (.bool (C.only 4097)) ∧ ∃ o1 o2, w' = (W.alloc o1).alloc o2) := fun W hb => by
    have := same_any ⟨C.k, C.i, C.s, false, 0, false, [], false, false, false, 0, 0, 0, 0, C.o⟩ C none 0 0 a C.d.length cap W (row_nil W) (hr.next hb)
    rw [bare_4097] at this
    exact this
  obtain ⟨x0, hx0⟩ : ∃ y, (128 : Int) % 256 = y := ⟨_, rfl⟩
  have KP : Hid (∀ W, Calls Try.prog 59 #[.int .i64 (128), .agg #[.int .u16 C.i, .int .u8 C.s]] W fun e w' => e = .returned (arr8 x0 (C.i % 256) (C.i / 256) C.s 0 0 0 0) ∧ ∃ o1 o2 o3 o4 o5, w' = ((((W.alloc o1).alloc o2).alloc o3).alloc o4).alloc o5) := fun W => hx0 ▸ placed_any (128) C.i C.s ok.i W
  have hO : Hid (wStop 128 C = if C.only 4097 then some ⟨x0, C.i % 256, C.i / 256, C.s, C.o % 256, C.o / 256 % 256, C.o / 65536 % 256, C.o / 16777216⟩ else none) := by rw [← hx0]; rfl
  have hi := ok.i
  have hx := ok.o
  generalize C.only 4097 = E at HS hO
  generalize wStop 128 C = O at hO ⊢
  generalize C.d.length = len at HS ⊢
  clear hr ok hx0
  obtain ⟨k, i, s, z, n, q, d, t, l, c, b, e, u, m, o⟩ := C
  dsimp only at HS hO hi hx KP ⊢
  go_enter Try.func60, Try.ntmps60
  go_wp2_with fail
  refine wp_region_held_drew (S := fun x => Below w.heap.size w x ∧ x.heap[w.heap.size]? = some (.cells (cmC k i s z n q a len cap t l c b e u m o) 36 (0, 0)) ∧ ∃ C : Array Value, C.size = 8 ∧ x.heap[w.heap.size + 1]? = some (.cells C 31 (0, 0))) (by kernel_rfl) (⟨(by repeat (first | assumption | exact Below.refl _ _ | apply Below.drew | apply Below.al)), (by repeat (first | assumption | exact heap_at _ _ _ rfl | exact heap_at _ _ _ (by simp) | rw [heap_drew] | rw [Below.heap_alloc _ _ _ (by first | (simp; done) | (simp; omega) | omega)])), _, rfl, (by repeat (first | assumption | exact heap_at _ _ _ rfl | exact heap_at _ _ _ (by simp) | rw [heap_drew] | rw [Below.heap_alloc _ _ _ (by first | (simp; done) | (simp; omega) | omega)]))⟩) (fun hHeld => ?_)
  obtain ⟨hW, hB, C0, hC0, hR⟩ := id hHeld
  refine tk 0 (.pointer (some ⟨w.heap.size, 1, none⟩)) rfl (.inl ⟨by rfl, ?_⟩) ?_
  · intro w9 hSw
    try dsimp only at hSw
    go_simp
    all_goals try decide
    all_goals try assumption
    all_goals try omega
  try simp only [Act.put, gA, gS, gZ, sA, sZ, sS]
  refine tk 1 (.agg #[.int .u16 i, .int .u8 s]) rfl (.inl ⟨by rfl, ?_⟩) ?_
  · intro w9 hSw
    try dsimp only at hSw
    exact ex_load 24 (.tmp 4) rfl _ _ rfl (ldPl _ _ _ _ (by rw [cell_of_row _ _ 1 _ _ _ hSw.2.1]; rfl) (by rw [cell_of_row _ _ 2 _ _ _ hSw.2.1]; rfl))
  try simp only [Act.put, gA, gS, gZ, sA, sZ, sS]
  refine tk 3 (.pointer (some ⟨w.heap.size, 14, none⟩)) rfl (.inl ⟨by rfl, ?_⟩) ?_
  · intro w9 hSw
    try dsimp only at hSw
    go_simp
    all_goals try decide
    all_goals try assumption
    all_goals try omega
  try simp only [Act.put, gA, gS, gZ, sA, sZ, sS]
  refine tk 4 (.int .u32 o) rfl (.inl ⟨by rfl, ?_⟩) ?_
  · intro w9 hSw
    try dsimp only at hSw
    exact ex_load 27 (.tmp 7) rfl _ _ rfl (ld_27 _ _ _ _ (by rw [cell_of_row _ _ 14 _ _ _ hSw.2.1]; rfl))
  try simp only [Act.put, gA, gS, gZ, sA, sZ, sS]
  refine tk 6 (.pointer (some ⟨w.heap.size, 0, none⟩)) rfl (.inl ⟨by rfl, ?_⟩) ?_
  · intro w9 hSw
    try dsimp only at hSw
    go_simp
    all_goals try decide
    all_goals try assumption
    all_goals try omega
  try simp only [Act.put, gA, gS, gZ, sA, sZ, sS]
  refine tk 7 (.int .u8 k) rfl (.inl ⟨by rfl, ?_⟩) ?_
  · intro w9 hSw
    try dsimp only at hSw
    exact ex_load 5 (.tmp 10) rfl _ _ rfl (ld_5 _ _ _ _ (by rw [cell_of_row _ _ 0 _ _ _ hSw.2.1]; rfl))
  try simp only [Act.put, gA, gS, gZ, sA, sZ, sS]
  refine tk 8 (.pointer (some ⟨w.heap.size, 1, none⟩)) rfl (.inl ⟨by rfl, ?_⟩) ?_
  · intro w9 hSw
    try dsimp only at hSw
    go_simp
    all_goals try decide
    all_goals try assumption
    all_goals try omega
  try simp only [Act.put, gA, gS, gZ, sA, sZ, sS]
  refine tk 9 (.agg #[.int .u16 i, .int .u8 s]) rfl (.inl ⟨by rfl, ?_⟩) ?_
  · intro w9 hSw
    try dsimp only at hSw
    exact ex_load 24 (.tmp 12) rfl _ _ rfl (ldPl _ _ _ _ (by rw [cell_of_row _ _ 1 _ _ _ hSw.2.1]; rfl) (by rw [cell_of_row _ _ 2 _ _ _ hSw.2.1]; rfl))
  try simp only [Act.put, gA, gS, gZ, sA, sZ, sS]
  refine tk 10 (.pointer (some ⟨w.heap.size, 14, none⟩)) rfl (.inl ⟨by rfl, ?_⟩) ?_
  · intro w9 hSw
    try dsimp only at hSw
    go_simp
    all_goals try decide
    all_goals try assumption
    all_goals try omega
  try simp only [Act.put, gA, gS, gZ, sA, sZ, sS]
  refine tk 11 (.int .u32 o) rfl (.inl ⟨by rfl, ?_⟩) ?_
  · intro w9 hSw
    try dsimp only at hSw
    exact ex_load 27 (.tmp 14) rfl _ _ rfl (ld_27 _ _ _ _ (by rw [cell_of_row _ _ 14 _ _ _ hSw.2.1]; rfl))
  try simp only [Act.put, gA, gS, gZ, sA, sZ, sS]
  refine tk 12 (cmV k i s false 0 false none 0 0 false false false 0 0 0 0 o) rfl (.inl ⟨by rfl, ?_⟩) ?_
  · intro w9 hSw
    try dsimp only at hSw
    go_simp
    all_goals try decide
    all_goals try assumption
    all_goals try omega
  try simp only [Act.put, gA, gS, gZ, sA, sZ, sS]
  refine tk 13 (cmV k i s z n q a len cap t l c b e u m o) rfl (.inl ⟨by rfl, ?_⟩) ?_
  · intro w9 hSw
    try dsimp only at hSw
    exact ex_load 36 (.tmp 1) rfl _ _ rfl (loadRC _ _ _ _ _ _ _ _ _ _ _ _ _ _ _ _ _ _ _ _ hSw.2.1)
  try simp only [Act.put, gA, gS, gZ, sA, sZ, sS]
  refine wpAnyH_ready (rs := [2]) (by kernel_rfl) (by simp) ?_
  refine AllReadyH.cons rfl (fun K' hK => ?_) AllReadyH.nil
  rw [if_pos (by rfl)]
  simp only [gA, gS, gZ]
  go_wp2_with fail
  refine (KP.out _).mono ?_
  rintro r ww ⟨rfl, v1_0, v1_1, v1_2, v1_3, v1_4, rfl⟩
  try go_wp2_with fail
  refine hK.out _ _ (⟨(Below.al (Below.al (Below.al (Below.al (Below.al hW _) _) _) _) _), (ext_al (ext_al (ext_al (ext_al (ext_al hB))))), C0, hC0, (ext_al (ext_al (ext_al (ext_al (ext_al hR)))))⟩) (fun hHeld => ?_)
  clear hK K'
  try simp only [Act.put, gA, gS, gZ, sA, sZ, sS]
  clear hW hB hC0 hR
  obtain ⟨hW, hB, C0, hC0, hR⟩ := id hHeld
  refine wpAnyH_ready (rs := [5]) (by kernel_rfl) (by simp) ?_
  refine AllReadyH.cons rfl (fun K' hK => ?_) AllReadyH.nil
  rw [if_pos (by rfl)]
  simp only [gA, gS, gZ]
  go_wp2_with fail
  refine (put44 x0 (i % 256) (i / 256) s 0 0 0 0 o hx _).mono ?_
  rintro r ww ⟨rfl, v2_0, v2_1, rfl⟩
  try go_wp2_with fail
  refine hK.out _ _ (⟨(Below.al (Below.al hW _) _), (ext_al (ext_al hB)), C0, hC0, (ext_al (ext_al hR))⟩) (fun hHeld => ?_)
  clear hK K'
  try simp only [Act.put, gA, gS, gZ, sA, sZ, sS]
  clear hW hB hC0 hR
  obtain ⟨hW, hB, C0, hC0, hR⟩ := id hHeld
  refine wpAnyH_ready (rs := [14]) (by kernel_rfl) (by simp) ?_
  refine AllReadyH.cons rfl (fun K' hK => ?_) AllReadyH.nil
  rw [if_pos (by rfl)]
  simp only [gA, gS, gZ]
  go_wp2_with fail
  refine (HS.out _ hW).mono ?_
  rintro r ww ⟨rfl, v3_0, v3_1, rfl⟩
  try go_wp2_with fail
  refine hK.out _ _ (⟨(Below.al (Below.al hW _) _), (ext_al (ext_al hB)), C0, hC0, (ext_al (ext_al hR))⟩) (fun hHeld => ?_)
  clear hK K'
  try simp only [Act.put, gA, gS, gZ, sA, sZ, sS]
  clear hW hB hC0 hR
  obtain ⟨hW, hB, C0, hC0, hR⟩ := id hHeld
  refine wpAnyH_ready (rs := [15]) (by kernel_rfl) (by simp) ?_
  refine AllReadyH.cons rfl (fun K' hK => ?_) AllReadyH.nil
  rw [if_pos (by rfl)]
  simp only [gA, gS, gZ]
  refine wp_store_by 31 (.tmp 2) (.tmp 9) rfl _ _ rfl rfl (store8 _ _ C0 x0 (i % 256) (i / 256) s (o % 256) (o / 256 % 256) (o / 65536 % 256) (o / 16777216) _ hR hC0) ?_
  refine hK.out _ _ (⟨below_setRow hW (by omega) _, (setRow_other _ _ _ _ (by omega)).trans hB, _, rfl, setRow_heap _ _ _ _ _ _ hR⟩) (fun hHeld => ?_)
  clear hK K'
  try simp only [Act.put, gA, gS, gZ, sA, sZ, sS]
  refine tk 16 (.bool E) rfl (.inl ⟨by rfl, ?_⟩) ?_
  · intro w9 hSw
    try dsimp only at hSw
    go_simp
    all_goals try decide
    all_goals try assumption
    all_goals try omega
  try simp only [Act.put, gA, gS, gZ, sA, sZ, sS]
  refine wpAnyH_done (by kernel_rfl) ?_ _
  have hc := fun j => cell_of_row _ (w.heap.size + 1) j _ _ _ (setRow_heap _ _ _ (ar8 x0 (i % 256) (i / 256) s (o % 256) (o / 256 % 256) (o / 65536 % 256) (o / 16777216)) _ _ hR)
  have hb := below_setRow hW (Nat.le_succ w.heap.size) (ar8 x0 (i % 256) (i / 256) s (o % 256) (o / 256 % 256) (o / 65536 % 256) (o / 16777216))
  clear hHeld hW hB hC0
  go_wp2_with fail
  refine bodyPost_ret (v := .tuple #[arr8 x0 (i % 256) (i / 256) s (o % 256) (o / 256 % 256) (o / 65536 % 256) (o / 16777216), .bool E]) ?_ rfl ⟨⟨x0, (i % 256), (i / 256), s, (o % 256), (o / 256 % 256), (o / 65536 % 256), (o / 16777216)⟩, E, rfl, ?_, ?_⟩
  · simp [results, Try.results60, go_sem, hc]
  · exact hO.out
  · exact hb
#print axioms rstop_any
end Go.Proofs.Ytlnlejdjekbipaa
namespace Go.Proofs.Ytlnlejdjekbipaa
open Go.RowKit

set_option linter.unusedSimpArgs false in
set_option maxHeartbeats 4000000 in
set_option maxRecDepth 100000 in
theorem rsized_any (C : Cm) (ok : C.Ok) (a : Option Addr) (cap : Nat) (w : World) (hr : Row w a C.d.length C.d) :
    Calls Try.prog 61 #[C.v a C.d.length cap] w (QPost w (wSize 192 C)) := by
  have HS : Hid (∀ W, Below w.heap.size w W → Calls Try.prog 18 #[cmV C.k C.i C.s C.z C.n false none 0 0 false false C.c 0 0 0 0 0, cmV C.k C.i C.s C.z C.n C.q a C.d.length cap C.t C.l C.c C.b C.e C.u C.m C.o] W fun r w' => r = .returned (.bool (C.only 135)) ∧ ∃ o1 o2, w' = (W.alloc o1).alloc o2) := fun W hb => by
    have := same_any ⟨C.k, C.i, C.s, C.z, C.n, false, [], false, false, C.c, 0, 0, 0, 0, 0⟩ C none 0 0 a C.d.length cap W (row_nil W) (hr.next hb)
    rw [bare_135] at this
    exact this
  obtain ⟨B4, hB4, lB4, gB4⟩ : ∃ y, bitn C.c 4 = y ∧ 0 ≤ y ∧ y ≤ 4 := ⟨_, rfl, by unfold bitn; split <;> omega, by unfold bitn; split <;> omega⟩
  have KB4 : Hid (∀ W, Calls Try.prog 34 #[.bool C.c, .int .i64 4] W fun e w' => e = .returned (.int .i64 B4) ∧ w' = W) := fun W => hB4 ▸ rbit_any C.c 4 W
  obtain ⟨B2, hB2, lB2, gB2⟩ : ∃ y, bitn C.z 2 = y ∧ 0 ≤ y ∧ y ≤ 2 := ⟨_, rfl, by unfold bitn; split <;> omega, by unfold bitn; split <;> omega⟩
  have KB2 : Hid (∀ W, Calls Try.prog 34 #[.bool C.z, .int .i64 2] W fun e w' => e = .returned (.int .i64 B2) ∧ w' = W) := fun W => hB2 ▸ rbit_any C.z 2 W
  obtain ⟨x0, hx0⟩ : ∃ y, (192 + B4 + B2 : Int) % 256 = y := ⟨_, rfl⟩
  have KP : Hid (∀ W, Calls Try.prog 59 #[.int .i64 (192 + B4 + B2), .agg #[.int .u16 C.i, .int .u8 C.s]] W fun e w' => e = .returned (arr8 x0 (C.i % 256) (C.i / 256) C.s 0 0 0 0) ∧ ∃ o1 o2 o3 o4 o5, w' = ((((W.alloc o1).alloc o2).alloc o3).alloc o4).alloc o5) := fun W => hx0 ▸ placed_any (192 + B4 + B2) C.i C.s ok.i W
  obtain ⟨y4, hy4⟩ : ∃ y, (C.n : Int) % 256 = y := ⟨_, rfl⟩
  obtain ⟨y5, hy5⟩ : ∃ y, (C.n : Int) / 256 % 256 = y := ⟨_, rfl⟩
  obtain ⟨y6, hy6⟩ : ∃ y, (C.n : Int) / 65536 % 256 = y := ⟨_, rfl⟩
  obtain ⟨y7, hy7⟩ : ∃ y, (C.n : Int) / 16777216 = y := ⟨_, rfl⟩
  have KQ : Hid (∀ W, Calls Try.prog 74 #[arr8 x0 (C.i % 256) (C.i / 256) C.s 0 0 0 0, .int .i64 4, .int .i64 4, .int .u32 C.n] W fun e w' => e = .returned (.agg (ar8 x0 (C.i % 256) (C.i / 256) C.s y4 y5 y6 y7)) ∧ ∃ o1 o2, w' = (W.alloc o1).alloc o2) := fun W => by rw [← hy4, ← hy5, ← hy6, ← hy7]; exact put44 _ _ _ _ _ _ _ _ _ ok.n W
  have hO : Hid (wSize 192 C = if C.only 135 && (C.z || C.n == 0) then some ⟨x0, C.i % 256, C.i / 256, C.s, y4, y5, y6, y7⟩ else none) := by
    have e1 : x0 = bits .or .u8 192 (bits .or .u8 (bitv C.c 4) (bitv C.z 2)) := by rw [← hx0, ← hB4, ← hB2]; cases C.c <;> cases C.z <;> decide
    rw [e1, ← hy4, ← hy5, ← hy6, ← hy7]; rfl
  have hi := ok.i
  have hx := ok.n
  clear hB4 hB2 hx0 hy4 hy5 hy6 hy7
  generalize C.only 135 = E at HS hO
  generalize wSize 192 C = O at hO ⊢
  clear hr ok
  generalize C.d.length = len at HS ⊢
  obtain ⟨k, i, s, z, n, q, d, t, l, c, b, e, u, m, o⟩ := C
  dsimp only at HS hO hi hx KB4 KB2 KP KQ ⊢
  cases E
  · go_enter Try.func61, Try.ntmps61
    go_wp2_with fail
    with_reducible refine (HS.out _ (by repeat (first | assumption | exact Below.refl _ _ | apply Below.drew | apply Below.al))).mono ?_
    rintro r ww ⟨rfl, v1, v2, rfl⟩
    go_wp2_with fail
    refine wp_region_held_drew (S := fun x => Below w.heap.size w x ∧ x.heap[w.heap.size]? = some (.cells (cmC k i s z n q a len cap t l c b e u m o) 36 (0, 0)) ∧ ∃ C : Array Value, C.size = 8 ∧ x.heap[w.heap.size + 1]? = some (.cells C 31 (0, 0))) (by kernel_rfl) (⟨(by repeat (first | assumption | exact Below.refl _ _ | apply Below.drew | apply Below.al)), (by repeat (first | assumption | exact heap_at _ _ _ rfl | exact heap_at _ _ _ (by simp) | rw [heap_drew] | rw [Below.heap_alloc _ _ _ (by first | (simp; done) | (simp; omega) | omega)])), _, rfl, (by repeat (first | assumption | exact heap_at _ _ _ rfl | exact heap_at _ _ _ (by simp) | rw [heap_drew] | rw [Below.heap_alloc _ _ _ (by first | (simp; done) | (simp; omega) | omega)]))⟩) (fun hHeld => ?_)
    obtain ⟨hW, hB, C0, hC0, hR⟩ := id hHeld
    refine tk 0 (.pointer (some ⟨w.heap.size, 9, none⟩)) rfl (.inl ⟨by rfl, ?_⟩) ?_
    · intro w9 hSw
      try dsimp only at hSw
      go_simp
      all_goals try decide
      all_goals try assumption
      all_goals try omega
    try simp only [Act.put, gA, gS, gZ, sA, sZ, sS]
    refine tk 1 (.bool c) rfl (.inl ⟨by rfl, ?_⟩) ?_
    · intro w9 hSw
      try dsimp only at hSw
      exact ex_load 4 (.tmp 27) rfl _ _ rfl (ld_4 _ _ _ _ (by rw [cell_of_row _ _ 9 _ _ _ hSw.2.1]; rfl))
    try simp only [Act.put, gA, gS, gZ, sA, sZ, sS]
    refine tk 4 (.pointer (some ⟨w.heap.size, 3, none⟩)) rfl (.inl ⟨by rfl, ?_⟩) ?_
    · intro w9 hSw
      try dsimp only at hSw
      go_simp
      all_goals try decide
      all_goals try assumption
      all_goals try omega
    try simp only [Act.put, gA, gS, gZ, sA, sZ, sS]
    refine tk 5 (.bool z) rfl (.inl ⟨by rfl, ?_⟩) ?_
    · intro w9 hSw
      try dsimp only at hSw
      exact ex_load 4 (.tmp 31) rfl _ _ rfl (ld_4 _ _ _ _ (by rw [cell_of_row _ _ 3 _ _ _ hSw.2.1]; rfl))
    try simp only [Act.put, gA, gS, gZ, sA, sZ, sS]
    refine tk 8 (.pointer (some ⟨w.heap.size, 1, none⟩)) rfl (.inl ⟨by rfl, ?_⟩) ?_
    · intro w9 hSw
      try dsimp only at hSw
      go_simp
      all_goals try decide
      all_goals try assumption
      all_goals try omega
    try simp only [Act.put, gA, gS, gZ, sA, sZ, sS]
    refine tk 9 (.agg #[.int .u16 i, .int .u8 s]) rfl (.inl ⟨by rfl, ?_⟩) ?_
    · intro w9 hSw
      try dsimp only at hSw
      exact ex_load 24 (.tmp 35) rfl _ _ rfl (ldPl _ _ _ _ (by rw [cell_of_row _ _ 1 _ _ _ hSw.2.1]; rfl) (by rw [cell_of_row _ _ 2 _ _ _ hSw.2.1]; rfl))
    try simp only [Act.put, gA, gS, gZ, sA, sZ, sS]
    refine tk 11 (.pointer (some ⟨w.heap.size, 4, none⟩)) rfl (.inl ⟨by rfl, ?_⟩) ?_
    · intro w9 hSw
      try dsimp only at hSw
      go_simp
      all_goals try decide
      all_goals try assumption
      all_goals try omega
    try simp only [Act.put, gA, gS, gZ, sA, sZ, sS]
    refine tk 12 (.int .u32 n) rfl (.inl ⟨by rfl, ?_⟩) ?_
    · intro w9 hSw
      try dsimp only at hSw
      exact ex_load 25 (.tmp 38) rfl _ _ rfl (ld_25 _ _ _ _ (by rw [cell_of_row _ _ 4 _ _ _ hSw.2.1]; rfl))
    try simp only [Act.put, gA, gS, gZ, sA, sZ, sS]
    refine tk 14 (.bool false) rfl (.inl ⟨by rfl, ?_⟩) ?_
    · intro w9 hSw
      try dsimp only at hSw
      go_simp
      all_goals try decide
      all_goals try assumption
      all_goals try omega
    try simp only [Act.put, gA, gS, gZ, sA, sZ, sS]
    refine wpAnyH_ready (rs := [2]) (by kernel_rfl) (by simp) ?_
    refine AllReadyH.cons rfl (fun K' hK => ?_) AllReadyH.nil
    rw [if_pos (by rfl)]
    simp only [gA, gS, gZ]
    go_wp2_with fail
    refine (KB4.out _).mono ?_
    rintro r ww ⟨rfl, rfl⟩
    try go_wp2_with fail
    refine hK.out _ _ (⟨hW, hB, C0, hC0, hR⟩) (fun hHeld => ?_)
    clear hK K'
    try simp only [Act.put, gA, gS, gZ, sA, sZ, sS]
    clear hW hB hC0 hR
    obtain ⟨hW, hB, C0, hC0, hR⟩ := id hHeld
    refine tk 3 (.int .i64 (192 + B4)) rfl (.inl ⟨by rfl, ?_⟩) ?_
    · intro w9 hSw
      try dsimp only at hSw
      go_simp
      all_goals try (rw [wrapI64 _ (by omega) (by omega)])
      all_goals try decide
      all_goals try omega
    try simp only [Act.put, gA, gS, gZ, sA, sZ, sS]
    refine wpAnyH_ready (rs := [6]) (by kernel_rfl) (by simp) ?_
    refine AllReadyH.cons rfl (fun K' hK => ?_) AllReadyH.nil
    rw [if_pos (by rfl)]
    simp only [gA, gS, gZ]
    go_wp2_with fail
    refine (KB2.out _).mono ?_
    rintro r ww ⟨rfl, rfl⟩
    try go_wp2_with fail
    refine hK.out _ _ (⟨hW, hB, C0, hC0, hR⟩) (fun hHeld => ?_)
    clear hK K'
    try simp only [Act.put, gA, gS, gZ, sA, sZ, sS]
    clear hW hB hC0 hR
    obtain ⟨hW, hB, C0, hC0, hR⟩ := id hHeld
    refine tk 7 (.int .i64 (192 + B4 + B2)) rfl (.inl ⟨by rfl, ?_⟩) ?_
    · intro w9 hSw
      try dsimp only at hSw
      go_simp
      all_goals try (rw [wrapI64 _ (by omega) (by omega)])
      all_goals try decide
      all_goals try omega
    try simp only [Act.put, gA, gS, gZ, sA, sZ, sS]
    refine wpAnyH_ready (rs := [10]) (by kernel_rfl) (by simp) ?_
    refine AllReadyH.cons rfl (fun K' hK => ?_) AllReadyH.nil
    rw [if_pos (by rfl)]
    simp only [gA, gS, gZ]
    go_wp2_with fail
    refine (KP.out _).mono ?_
    rintro r ww ⟨rfl, v4_0, v4_1, v4_2, v4_3, v4_4, rfl⟩
    try go_wp2_with fail
    refine hK.out _ _ (⟨(Below.al (Below.al (Below.al (Below.al (Below.al hW _) _) _) _) _), (ext_al (ext_al (ext_al (ext_al (ext_al hB))))), C0, hC0, (ext_al (ext_al (ext_al (ext_al (ext_al hR)))))⟩) (fun hHeld => ?_)
    clear hK K'
    try simp only [Act.put, gA, gS, gZ, sA, sZ, sS]
    clear hW hB hC0 hR
    obtain ⟨hW, hB, C0, hC0, hR⟩ := id hHeld
    refine wpAnyH_ready (rs := [13]) (by kernel_rfl) (by simp) ?_
    refine AllReadyH.cons rfl (fun K' hK => ?_) AllReadyH.nil
    rw [if_pos (by rfl)]
    simp only [gA, gS, gZ]
    go_wp2_with fail
    refine (KQ.out _).mono ?_
    rintro r ww ⟨rfl, v5_0, v5_1, rfl⟩
    try go_wp2_with fail
    refine hK.out _ _ (⟨(Below.al (Below.al hW _) _), (ext_al (ext_al hB)), C0, hC0, (ext_al (ext_al hR))⟩) (fun hHeld => ?_)
    clear hK K'
    try simp only [Act.put, gA, gS, gZ, sA, sZ, sS]
    clear hW hB hC0 hR
    obtain ⟨hW, hB, C0, hC0, hR⟩ := id hHeld
    refine wpAnyH_ready (rs := [15]) (by kernel_rfl) (by simp) ?_
    refine AllReadyH.cons rfl (fun K' hK => ?_) AllReadyH.nil
    rw [if_pos (by rfl)]
    simp only [gA, gS, gZ]
    refine wp_store_by 31 (.tmp 2) (.tmp 40) rfl _ _ rfl rfl (store8 _ _ C0 x0 (i % 256) (i / 256) s y4 y5 y6 y7 _ hR hC0) ?_
    refine hK.out _ _ (⟨below_setRow hW (by omega) _, (setRow_other _ _ _ _ (by omega)).trans hB, _, rfl, setRow_heap _ _ _ _ _ _ hR⟩) (fun hHeld => ?_)
    clear hK K'
    try simp only [Act.put, gA, gS, gZ, sA, sZ, sS]
    refine tk 16 (.bool false) rfl (.inl ⟨by rfl, ?_⟩) ?_
    · intro w9 hSw
      try dsimp only at hSw
      go_simp
      all_goals try decide
      all_goals try assumption
      all_goals try omega
    try simp only [Act.put, gA, gS, gZ, sA, sZ, sS]
    refine wpAnyH_done (by kernel_rfl) ?_ _
    have hc := fun j => cell_of_row _ (w.heap.size + 1) j _ _ _ (setRow_heap _ _ _ (ar8 x0 (i % 256) (i / 256) s y4 y5 y6 y7) _ _ hR)
    have hb := below_setRow hW (Nat.le_succ w.heap.size) (ar8 x0 (i % 256) (i / 256) s y4 y5 y6 y7)
    clear hHeld hW hB hC0
    go_wp2_with fail
    refine bodyPost_ret (v := .tuple #[arr8 x0 (i % 256) (i / 256) s y4 y5 y6 y7, .bool false]) ?_ rfl ⟨⟨x0, (i % 256), (i / 256), s, y4, y5, y6, y7⟩, false, rfl, ?_, ?_⟩
    · simp [results, Try.results61, go_sem, hc]
    · exact hO.out
    · exact hb
  cases z
  · by_cases h0 : n = 0
    · subst h0
      go_enter Try.func61, Try.ntmps61
      go_wp2_with fail
      with_reducible refine (HS.out _ (by repeat (first | assumption | exact Below.refl _ _ | apply Below.drew | apply Below.al))).mono ?_
      rintro r ww ⟨rfl, v1, v2, rfl⟩
      go_wp2_with fail
      refine wp_region_held_drew (S := fun x => Below w.heap.size w x ∧ x.heap[w.heap.size]? = some (.cells (cmC k i s false 0 q a len cap t l c b e u m o) 36 (0, 0)) ∧ ∃ C : Array Value, C.size = 8 ∧ x.heap[w.heap.size + 1]? = some (.cells C 31 (0, 0))) (by kernel_rfl) (⟨(by repeat (first | assumption | exact Below.refl _ _ | apply Below.drew | apply Below.al)), (by repeat (first | assumption | exact heap_at _ _ _ rfl | exact heap_at _ _ _ (by simp) | rw [heap_drew] | rw [Below.heap_alloc _ _ _ (by first | (simp; done) | (simp; omega) | omega)])), _, rfl, (by repeat (first | assumption | exact heap_at _ _ _ rfl | exact heap_at _ _ _ (by simp) | rw [heap_drew] | rw [Below.heap_alloc _ _ _ (by first | (simp; done) | (simp; omega) | omega)]))⟩) (fun hHeld => ?_)
      obtain ⟨hW, hB, C0, hC0, hR⟩ := id hHeld
      refine tk 0 (.pointer (some ⟨w.heap.size, 9, none⟩)) rfl (.inl ⟨by rfl, ?_⟩) ?_
      · intro w9 hSw
        try dsimp only at hSw
        go_simp
        all_goals try decide
        all_goals try assumption
        all_goals try omega
      try simp only [Act.put, gA, gS, gZ, sA, sZ, sS]
      refine tk 1 (.bool c) rfl (.inl ⟨by rfl, ?_⟩) ?_
      · intro w9 hSw
        try dsimp only at hSw
        exact ex_load 4 (.tmp 27) rfl _ _ rfl (ld_4 _ _ _ _ (by rw [cell_of_row _ _ 9 _ _ _ hSw.2.1]; rfl))
      try simp only [Act.put, gA, gS, gZ, sA, sZ, sS]
      refine tk 4 (.pointer (some ⟨w.heap.size, 3, none⟩)) rfl (.inl ⟨by rfl, ?_⟩) ?_
      · intro w9 hSw
        try dsimp only at hSw
        go_simp
        all_goals try decide
        all_goals try assumption
        all_goals try omega
      try simp only [Act.put, gA, gS, gZ, sA, sZ, sS]
      refine tk 5 (.bool false) rfl (.inl ⟨by rfl, ?_⟩) ?_
      · intro w9 hSw
        try dsimp only at hSw
        exact ex_load 4 (.tmp 31) rfl _ _ rfl (ld_4 _ _ _ _ (by rw [cell_of_row _ _ 3 _ _ _ hSw.2.1]; rfl))
      try simp only [Act.put, gA, gS, gZ, sA, sZ, sS]
      refine tk 8 (.pointer (some ⟨w.heap.size, 1, none⟩)) rfl (.inl ⟨by rfl, ?_⟩) ?_
      · intro w9 hSw
        try dsimp only at hSw
        go_simp
        all_goals try decide
        all_goals try assumption
        all_goals try omega
      try simp only [Act.put, gA, gS, gZ, sA, sZ, sS]
      refine tk 9 (.agg #[.int .u16 i, .int .u8 s]) rfl (.inl ⟨by rfl, ?_⟩) ?_
      · intro w9 hSw
        try dsimp only at hSw
        exact ex_load 24 (.tmp 35) rfl _ _ rfl (ldPl _ _ _ _ (by rw [cell_of_row _ _ 1 _ _ _ hSw.2.1]; rfl) (by rw [cell_of_row _ _ 2 _ _ _ hSw.2.1]; rfl))
      try simp only [Act.put, gA, gS, gZ, sA, sZ, sS]
      refine tk 11 (.pointer (some ⟨w.heap.size, 4, none⟩)) rfl (.inl ⟨by rfl, ?_⟩) ?_
      · intro w9 hSw
        try dsimp only at hSw
        go_simp
        all_goals try decide
        all_goals try assumption
        all_goals try omega
      try simp only [Act.put, gA, gS, gZ, sA, sZ, sS]
      refine tk 12 (.int .u32 0) rfl (.inl ⟨by rfl, ?_⟩) ?_
      · intro w9 hSw
        try dsimp only at hSw
        exact ex_load 25 (.tmp 38) rfl _ _ rfl (ld_25 _ _ _ _ (by rw [cell_of_row _ _ 4 _ _ _ hSw.2.1]; rfl))
      try simp only [Act.put, gA, gS, gZ, sA, sZ, sS]
      refine tk 14 (.bool true) rfl (.inl ⟨by rfl, ?_⟩) ?_
      · intro w9 hSw
        try dsimp only at hSw
        go_simp
        all_goals try decide
        all_goals try assumption
        all_goals try omega
      try simp only [Act.put, gA, gS, gZ, sA, sZ, sS]
      refine wpAnyH_ready (rs := [2]) (by kernel_rfl) (by simp) ?_
      refine AllReadyH.cons rfl (fun K' hK => ?_) AllReadyH.nil
      rw [if_pos (by rfl)]
      simp only [gA, gS, gZ]
      go_wp2_with fail
      refine (KB4.out _).mono ?_
      rintro r ww ⟨rfl, rfl⟩
      try go_wp2_with fail
      refine hK.out _ _ (⟨hW, hB, C0, hC0, hR⟩) (fun hHeld => ?_)
      clear hK K'
      try simp only [Act.put, gA, gS, gZ, sA, sZ, sS]
      clear hW hB hC0 hR
      obtain ⟨hW, hB, C0, hC0, hR⟩ := id hHeld
      refine tk 3 (.int .i64 (192 + B4)) rfl (.inl ⟨by rfl, ?_⟩) ?_
      · intro w9 hSw
        try dsimp only at hSw
        go_simp
        all_goals try (rw [wrapI64 _ (by omega) (by omega)])
        all_goals try decide
        all_goals try omega
      try simp only [Act.put, gA, gS, gZ, sA, sZ, sS]
      refine wpAnyH_ready (rs := [6]) (by kernel_rfl) (by simp) ?_
      refine AllReadyH.cons rfl (fun K' hK => ?_) AllReadyH.nil
      rw [if_pos (by rfl)]
      simp only [gA, gS, gZ]
      go_wp2_with fail
      refine (KB2.out _).mono ?_
      rintro r ww ⟨rfl, rfl⟩
      try go_wp2_with fail
      refine hK.out _ _ (⟨hW, hB, C0, hC0, hR⟩) (fun hHeld => ?_)
      clear hK K'
      try simp only [Act.put, gA, gS, gZ, sA, sZ, sS]
      clear hW hB hC0 hR
      obtain ⟨hW, hB, C0, hC0, hR⟩ := id hHeld
      refine tk 7 (.int .i64 (192 + B4 + B2)) rfl (.inl ⟨by rfl, ?_⟩) ?_
      · intro w9 hSw
        try dsimp only at hSw
        go_simp
        all_goals try (rw [wrapI64 _ (by omega) (by omega)])
        all_goals try decide
        all_goals try omega
      try simp only [Act.put, gA, gS, gZ, sA, sZ, sS]
      refine wpAnyH_ready (rs := [10]) (by kernel_rfl) (by simp) ?_
      refine AllReadyH.cons rfl (fun K' hK => ?_) AllReadyH.nil
      rw [if_pos (by rfl)]
      simp only [gA, gS, gZ]
      go_wp2_with fail
      refine (KP.out _).mono ?_
      rintro r ww ⟨rfl, v6_0, v6_1, v6_2, v6_3, v6_4, rfl⟩
      try go_wp2_with fail
      refine hK.out _ _ (⟨(Below.al (Below.al (Below.al (Below.al (Below.al hW _) _) _) _) _), (ext_al (ext_al (ext_al (ext_al (ext_al hB))))), C0, hC0, (ext_al (ext_al (ext_al (ext_al (ext_al hR)))))⟩) (fun hHeld => ?_)
      clear hK K'
      try simp only [Act.put, gA, gS, gZ, sA, sZ, sS]
      clear hW hB hC0 hR
      obtain ⟨hW, hB, C0, hC0, hR⟩ := id hHeld
      refine wpAnyH_ready (rs := [13]) (by kernel_rfl) (by simp) ?_
      refine AllReadyH.cons rfl (fun K' hK => ?_) AllReadyH.nil
      rw [if_pos (by rfl)]
      simp only [gA, gS, gZ]
      go_wp2_with fail
      refine (KQ.out _).mono ?_
      rintro r ww ⟨rfl, v7_0, v7_1, rfl⟩
      try go_wp2_with fail
      refine hK.out _ _ (⟨(Below.al (Below.al hW _) _), (ext_al (ext_al hB)), C0, hC0, (ext_al (ext_al hR))⟩) (fun hHeld => ?_)
      clear hK K'
      try simp only [Act.put, gA, gS, gZ, sA, sZ, sS]
      clear hW hB hC0 hR
      obtain ⟨hW, hB, C0, hC0, hR⟩ := id hHeld
      refine wpAnyH_ready (rs := [15]) (by kernel_rfl) (by simp) ?_
      refine AllReadyH.cons rfl (fun K' hK => ?_) AllReadyH.nil
      rw [if_pos (by rfl)]
      simp only [gA, gS, gZ]
      refine wp_store_by 31 (.tmp 2) (.tmp 40) rfl _ _ rfl rfl (store8 _ _ C0 x0 (i % 256) (i / 256) s y4 y5 y6 y7 _ hR hC0) ?_
      refine hK.out _ _ (⟨below_setRow hW (by omega) _, (setRow_other _ _ _ _ (by omega)).trans hB, _, rfl, setRow_heap _ _ _ _ _ _ hR⟩) (fun hHeld => ?_)
      clear hK K'
      try simp only [Act.put, gA, gS, gZ, sA, sZ, sS]
      refine tk 16 (.bool true) rfl (.inl ⟨by rfl, ?_⟩) ?_
      · intro w9 hSw
        try dsimp only at hSw
        go_simp
        all_goals try decide
        all_goals try assumption
        all_goals try omega
      try simp only [Act.put, gA, gS, gZ, sA, sZ, sS]
      refine wpAnyH_done (by kernel_rfl) ?_ _
      have hc := fun j => cell_of_row _ (w.heap.size + 1) j _ _ _ (setRow_heap _ _ _ (ar8 x0 (i % 256) (i / 256) s y4 y5 y6 y7) _ _ hR)
      have hb := below_setRow hW (Nat.le_succ w.heap.size) (ar8 x0 (i % 256) (i / 256) s y4 y5 y6 y7)
      clear hHeld hW hB hC0
      go_wp2_with fail
      refine bodyPost_ret (v := .tuple #[arr8 x0 (i % 256) (i / 256) s y4 y5 y6 y7, .bool true]) ?_ rfl ⟨⟨x0, (i % 256), (i / 256), s, y4, y5, y6, y7⟩, true, rfl, ?_, ?_⟩
      · simp [results, Try.results61, go_sem, hc]
      · exact hO.out
      · exact hb
    · have hn0 : (n == 0) = false := by simpa using h0
      rw [hn0] at hO
      go_enter Try.func61, Try.ntmps61
      go_wp2_with fail
      with_reducible refine (HS.out _ (by repeat (first | assumption | exact Below.refl _ _ | apply Below.drew | apply Below.al))).mono ?_
      rintro r ww ⟨rfl, v1, v2, rfl⟩
      go_wp2_with fail
      refine wp_region_held_drew (S := fun x => Below w.heap.size w x ∧ x.heap[w.heap.size]? = some (.cells (cmC k i s false n q a len cap t l c b e u m o) 36 (0, 0)) ∧ ∃ C : Array Value, C.size = 8 ∧ x.heap[w.heap.size + 1]? = some (.cells C 31 (0, 0))) (by kernel_rfl) (⟨(by repeat (first | assumption | exact Below.refl _ _ | apply Below.drew | apply Below.al)), (by repeat (first | assumption | exact heap_at _ _ _ rfl | exact heap_at _ _ _ (by simp) | rw [heap_drew] | rw [Below.heap_alloc _ _ _ (by first | (simp; done) | (simp; omega) | omega)])), _, rfl, (by repeat (first | assumption | exact heap_at _ _ _ rfl | exact heap_at _ _ _ (by simp) | rw [heap_drew] | rw [Below.heap_alloc _ _ _ (by first | (simp; done) | (simp; omega) | omega)]))⟩) (fun hHeld => ?_)
      obtain ⟨hW, hB, C0, hC0, hR⟩ := id hHeld
      refine tk 0 (.pointer (some ⟨w.heap.size, 9, none⟩)) rfl (.inl ⟨by rfl, ?_⟩) ?_
      · intro w9 hSw
        try dsimp only at hSw
        go_simp
        all_goals try decide
        all_goals try assumption
        all_goals try omega
      try simp only [Act.put, gA, gS, gZ, sA, sZ, sS]
      refine tk 1 (.bool c) rfl (.inl ⟨by rfl, ?_⟩) ?_
      · intro w9 hSw
        try dsimp only at hSw
        exact ex_load 4 (.tmp 27) rfl _ _ rfl (ld_4 _ _ _ _ (by rw [cell_of_row _ _ 9 _ _ _ hSw.2.1]; rfl))
      try simp only [Act.put, gA, gS, gZ, sA, sZ, sS]
      refine tk 4 (.pointer (some ⟨w.heap.size, 3, none⟩)) rfl (.inl ⟨by rfl, ?_⟩) ?_
      · intro w9 hSw
        try dsimp only at hSw
        go_simp
        all_goals try decide
        all_goals try assumption
        all_goals try omega
      try simp only [Act.put, gA, gS, gZ, sA, sZ, sS]
      refine tk 5 (.bool false) rfl (.inl ⟨by rfl, ?_⟩) ?_
      · intro w9 hSw
        try dsimp only at hSw
        exact ex_load 4 (.tmp 31) rfl _ _ rfl (ld_4 _ _ _ _ (by rw [cell_of_row _ _ 3 _ _ _ hSw.2.1]; rfl))
      try simp only [Act.put, gA, gS, gZ, sA, sZ, sS]
      refine tk 8 (.pointer (some ⟨w.heap.size, 1, none⟩)) rfl (.inl ⟨by rfl, ?_⟩) ?_
      · intro w9 hSw
        try dsimp only at hSw
        go_simp
        all_goals try decide
        all_goals try assumption
        all_goals try omega
      try simp only [Act.put, gA, gS, gZ, sA, sZ, sS]
      refine tk 9 (.agg #[.int .u16 i, .int .u8 s]) rfl (.inl ⟨by rfl, ?_⟩) ?_
      · intro w9 hSw
        try dsimp only at hSw
        exact ex_load 24 (.tmp 35) rfl _ _ rfl (ldPl _ _ _ _ (by rw [cell_of_row _ _ 1 _ _ _ hSw.2.1]; rfl) (by rw [cell_of_row _ _ 2 _ _ _ hSw.2.1]; rfl))
      try simp only [Act.put, gA, gS, gZ, sA, sZ, sS]
      refine tk 11 (.pointer (some ⟨w.heap.size, 4, none⟩)) rfl (.inl ⟨by rfl, ?_⟩) ?_
      · intro w9 hSw
        try dsimp only at hSw
        go_simp
        all_goals try decide
        all_goals try assumption
        all_goals try omega
      try simp only [Act.put, gA, gS, gZ, sA, sZ, sS]
      refine tk 12 (.int .u32 n) rfl (.inl ⟨by rfl, ?_⟩) ?_
      · intro w9 hSw
        try dsimp only at hSw
        exact ex_load 25 (.tmp 38) rfl _ _ rfl (ld_25 _ _ _ _ (by rw [cell_of_row _ _ 4 _ _ _ hSw.2.1]; rfl))
      try simp only [Act.put, gA, gS, gZ, sA, sZ, sS]
      refine tk 14 (.bool false) rfl (.inl ⟨by rfl, ?_⟩) ?_
      · intro w9 hSw
        try dsimp only at hSw
        go_simp
        all_goals try decide
        all_goals try assumption
        all_goals try omega
      try simp only [Act.put, gA, gS, gZ, sA, sZ, sS]
      refine wpAnyH_ready (rs := [2]) (by kernel_rfl) (by simp) ?_
      refine AllReadyH.cons rfl (fun K' hK => ?_) AllReadyH.nil
      rw [if_pos (by rfl)]
      simp only [gA, gS, gZ]
      go_wp2_with fail
      refine (KB4.out _).mono ?_
      rintro r ww ⟨rfl, rfl⟩
      try go_wp2_with fail
      refine hK.out _ _ (⟨hW, hB, C0, hC0, hR⟩) (fun hHeld => ?_)
      clear hK K'
      try simp only [Act.put, gA, gS, gZ, sA, sZ, sS]
      clear hW hB hC0 hR
      obtain ⟨hW, hB, C0, hC0, hR⟩ := id hHeld
      refine tk 3 (.int .i64 (192 + B4)) rfl (.inl ⟨by rfl, ?_⟩) ?_
      · intro w9 hSw
        try dsimp only at hSw
        go_simp
        all_goals try (rw [wrapI64 _ (by omega) (by omega)])
        all_goals try decide
        all_goals try omega
      try simp only [Act.put, gA, gS, gZ, sA, sZ, sS]
      refine wpAnyH_ready (rs := [6]) (by kernel_rfl) (by simp) ?_
      refine AllReadyH.cons rfl (fun K' hK => ?_) AllReadyH.nil
      rw [if_pos (by rfl)]
      simp only [gA, gS, gZ]
      go_wp2_with fail
      refine (KB2.out _).mono ?_
      rintro r ww ⟨rfl, rfl⟩
      try go_wp2_with fail
      refine hK.out _ _ (⟨hW, hB, C0, hC0, hR⟩) (fun hHeld => ?_)
      clear hK K'
      try simp only [Act.put, gA, gS, gZ, sA, sZ, sS]
      clear hW hB hC0 hR
      obtain ⟨hW, hB, C0, hC0, hR⟩ := id hHeld
      refine tk 7 (.int .i64 (192 + B4 + B2)) rfl (.inl ⟨by rfl, ?_⟩) ?_
      · intro w9 hSw
        try dsimp only at hSw
        go_simp
        all_goals try (rw [wrapI64 _ (by omega) (by omega)])
        all_goals try decide
        all_goals try omega
      try simp only [Act.put, gA, gS, gZ, sA, sZ, sS]
      refine wpAnyH_ready (rs := [10]) (by kernel_rfl) (by simp) ?_
      refine AllReadyH.cons rfl (fun K' hK => ?_) AllReadyH.nil
      rw [if_pos (by rfl)]
      simp only [gA, gS, gZ]
      go_wp2_with fail
      refine (KP.out _).mono ?_
      rintro r ww ⟨rfl, v8_0, v8_1, v8_2, v8_3, v8_4, rfl⟩
      try go_wp2_with fail
      refine hK.out _ _ (⟨(Below.al (Below.al (Below.al (Below.al (Below.al hW _) _) _) _) _), (ext_al (ext_al (ext_al (ext_al (ext_al hB))))), C0, hC0, (ext_al (ext_al (ext_al (ext_al (ext_al hR)))))⟩) (fun hHeld => ?_)
      clear hK K'
      try simp only [Act.put, gA, gS, gZ, sA, sZ, sS]
      clear hW hB hC0 hR
      obtain ⟨hW, hB, C0, hC0, hR⟩ := id hHeld
      refine wpAnyH_ready (rs := [13]) (by kernel_rfl) (by simp) ?_
      refine AllReadyH.cons rfl (fun K' hK => ?_) AllReadyH.nil
      rw [if_pos (by rfl)]
      simp only [gA, gS, gZ]
      go_wp2_with fail
      refine (KQ.out _).mono ?_
      rintro r ww ⟨rfl, v9_0, v9_1, rfl⟩
      try go_wp2_with fail
      refine hK.out _ _ (⟨(Below.al (Below.al hW _) _), (ext_al (ext_al hB)), C0, hC0, (ext_al (ext_al hR))⟩) (fun hHeld => ?_)
      clear hK K'
      try simp only [Act.put, gA, gS, gZ, sA, sZ, sS]
      clear hW hB hC0 hR
      obtain ⟨hW, hB, C0, hC0, hR⟩ := id hHeld
      refine wpAnyH_ready (rs := [15]) (by kernel_rfl) (by simp) ?_
      refine AllReadyH.cons rfl (fun K' hK => ?_) AllReadyH.nil
      rw [if_pos (by rfl)]
      simp only [gA, gS, gZ]
      refine wp_store_by 31 (.tmp 2) (.tmp 40) rfl _ _ rfl rfl (store8 _ _ C0 x0 (i % 256) (i / 256) s y4 y5 y6 y7 _ hR hC0) ?_
      refine hK.out _ _ (⟨below_setRow hW (by omega) _, (setRow_other _ _ _ _ (by omega)).trans hB, _, rfl, setRow_heap _ _ _ _ _ _ hR⟩) (fun hHeld => ?_)
      clear hK K'
      try simp only [Act.put, gA, gS, gZ, sA, sZ, sS]
      refine tk 16 (.bool false) rfl (.inl ⟨by rfl, ?_⟩) ?_
      · intro w9 hSw
        try dsimp only at hSw
        go_simp
        all_goals try decide
        all_goals try assumption
        all_goals try omega
      try simp only [Act.put, gA, gS, gZ, sA, sZ, sS]
      refine wpAnyH_done (by kernel_rfl) ?_ _
      have hc := fun j => cell_of_row _ (w.heap.size + 1) j _ _ _ (setRow_heap _ _ _ (ar8 x0 (i % 256) (i / 256) s y4 y5 y6 y7) _ _ hR)
      have hb := below_setRow hW (Nat.le_succ w.heap.size) (ar8 x0 (i % 256) (i / 256) s y4 y5 y6 y7)
      clear hHeld hW hB hC0
      go_wp2_with fail
      refine bodyPost_ret (v := .tuple #[arr8 x0 (i % 256) (i / 256) s y4 y5 y6 y7, .bool false]) ?_ rfl ⟨⟨x0, (i % 256), (i / 256), s, y4, y5, y6, y7⟩, false, rfl, ?_, ?_⟩
      · simp [results, Try.results61, go_sem, hc]
      · exact hO.out
      · exact hb
  · go_enter Try.func61, Try.ntmps61
    go_wp2_with fail
    with_reducible refine (HS.out _ (by repeat (first | assumption | exact Below.refl _ _ | apply Below.drew | apply Below.al))).mono ?_
    rintro r ww ⟨rfl, v1, v2, rfl⟩
    go_wp2_with fail
    refine wp_region_held_drew (S := fun x => Below w.heap.size w x ∧ x.heap[w.heap.size]? = some (.cells (cmC k i s true n q a len cap t l c b e u m o) 36 (0, 0)) ∧ ∃ C : Array Value, C.size = 8 ∧ x.heap[w.heap.size + 1]? = some (.cells C 31 (0, 0))) (by kernel_rfl) (⟨(by repeat (first | assumption | exact Below.refl _ _ | apply Below.drew | apply Below.al)), (by repeat (first | assumption | exact heap_at _ _ _ rfl | exact heap_at _ _ _ (by simp) | rw [heap_drew] | rw [Below.heap_alloc _ _ _ (by first | (simp; done) | (simp; omega) | omega)])), _, rfl, (by repeat (first | assumption | exact heap_at _ _ _ rfl | exact heap_at _ _ _ (by simp) | rw [heap_drew] | rw [Below.heap_alloc _ _ _ (by first | (simp; done) | (simp; omega) | omega)]))⟩) (fun hHeld => ?_)
    obtain ⟨hW, hB, C0, hC0, hR⟩ := id hHeld
    refine tk 0 (.pointer (some ⟨w.heap.size, 9, none⟩)) rfl (.inl ⟨by rfl, ?_⟩) ?_
    · intro w9 hSw
      try dsimp only at hSw
      go_simp
      all_goals try decide
      all_goals try assumption
      all_goals try omega
    try simp only [Act.put, gA, gS, gZ, sA, sZ, sS]
    refine tk 1 (.bool c) rfl (.inl ⟨by rfl, ?_⟩) ?_
    · intro w9 hSw
      try dsimp only at hSw
      exact ex_load 4 (.tmp 27) rfl _ _ rfl (ld_4 _ _ _ _ (by rw [cell_of_row _ _ 9 _ _ _ hSw.2.1]; rfl))
    try simp only [Act.put, gA, gS, gZ, sA, sZ, sS]
    refine tk 4 (.pointer (some ⟨w.heap.size, 3, none⟩)) rfl (.inl ⟨by rfl, ?_⟩) ?_
    · intro w9 hSw
      try dsimp only at hSw
      go_simp
      all_goals try decide
      all_goals try assumption
      all_goals try omega
    try simp only [Act.put, gA, gS, gZ, sA, sZ, sS]
    refine tk 5 (.bool true) rfl (.inl ⟨by rfl, ?_⟩) ?_
    · intro w9 hSw
      try dsimp only at hSw
      exact ex_load 4 (.tmp 31) rfl _ _ rfl (ld_4 _ _ _ _ (by rw [cell_of_row _ _ 3 _ _ _ hSw.2.1]; rfl))
    try simp only [Act.put, gA, gS, gZ, sA, sZ, sS]
    refine tk 8 (.pointer (some ⟨w.heap.size, 1, none⟩)) rfl (.inl ⟨by rfl, ?_⟩) ?_
    · intro w9 hSw
      try dsimp only at hSw
      go_simp
      all_goals try decide
      all_goals try assumption
      all_goals try omega
    try simp only [Act.put, gA, gS, gZ, sA, sZ, sS]
    refine tk 9 (.agg #[.int .u16 i, .int .u8 s]) rfl (.inl ⟨by rfl, ?_⟩) ?_
    · intro w9 hSw
      try dsimp only at hSw
      exact ex_load 24 (.tmp 35) rfl _ _ rfl (ldPl _ _ _ _ (by rw [cell_of_row _ _ 1 _ _ _ hSw.2.1]; rfl) (by rw [cell_of_row _ _ 2 _ _ _ hSw.2.1]; rfl))
    try simp only [Act.put, gA, gS, gZ, sA, sZ, sS]
    refine tk 11 (.pointer (some ⟨w.heap.size, 4, none⟩)) rfl (.inl ⟨by rfl, ?_⟩) ?_
    · intro w9 hSw
      try dsimp only at hSw
      go_simp
      all_goals try decide
      all_goals try assumption
      all_goals try omega
    try simp only [Act.put, gA, gS, gZ, sA, sZ, sS]
    refine tk 12 (.int .u32 n) rfl (.inl ⟨by rfl, ?_⟩) ?_
    · intro w9 hSw
      try dsimp only at hSw
      exact ex_load 25 (.tmp 38) rfl _ _ rfl (ld_25 _ _ _ _ (by rw [cell_of_row _ _ 4 _ _ _ hSw.2.1]; rfl))
    try simp only [Act.put, gA, gS, gZ, sA, sZ, sS]
    refine tk 14 (.bool true) rfl (.inl ⟨by rfl, ?_⟩) ?_
    · intro w9 hSw
      try dsimp only at hSw
      go_simp
      all_goals try decide
      all_goals try assumption
      all_goals try omega
    try simp only [Act.put, gA, gS, gZ, sA, sZ, sS]
    refine wpAnyH_ready (rs := [2]) (by kernel_rfl) (by simp) ?_
    refine AllReadyH.cons rfl (fun K' hK => ?_) AllReadyH.nil
    rw [if_pos (by rfl)]
    simp only [gA, gS, gZ]
    go_wp2_with fail
    refine (KB4.out _).mono ?_
    rintro r ww ⟨rfl, rfl⟩
    try go_wp2_with fail
    refine hK.out _ _ (⟨hW, hB, C0, hC0, hR⟩) (fun hHeld => ?_)
    clear hK K'
    try simp only [Act.put, gA, gS, gZ, sA, sZ, sS]
    clear hW hB hC0 hR
    obtain ⟨hW, hB, C0, hC0, hR⟩ := id hHeld
    refine tk 3 (.int .i64 (192 + B4)) rfl (.inl ⟨by rfl, ?_⟩) ?_
    · intro w9 hSw
      try dsimp only at hSw
      go_simp
      all_goals try (rw [wrapI64 _ (by omega) (by omega)])
      all_goals try decide
      all_goals try omega
    try simp only [Act.put, gA, gS, gZ, sA, sZ, sS]
    refine wpAnyH_ready (rs := [6]) (by kernel_rfl) (by simp) ?_
    refine AllReadyH.cons rfl (fun K' hK => ?_) AllReadyH.nil
    rw [if_pos (by rfl)]
    simp only [gA, gS, gZ]
    go_wp2_with fail
    refine (KB2.out _).mono ?_
    rintro r ww ⟨rfl, rfl⟩
    try go_wp2_with fail
    refine hK.out _ _ (⟨hW, hB, C0, hC0, hR⟩) (fun hHeld => ?_)
    clear hK K'
    try simp only [Act.put, gA, gS, gZ, sA, sZ, sS]
    clear hW hB hC0 hR
    obtain ⟨hW, hB, C0, hC0, hR⟩ := id hHeld
    refine tk 7 (.int .i64 (192 + B4 + B2)) rfl (.inl ⟨by rfl, ?_⟩) ?_
    · intro w9 hSw
      try dsimp only at hSw
      go_simp
      all_goals try (rw [wrapI64 _ (by omega) (by omega)])
      all_goals try decide
      all_goals try omega
    try simp only [Act.put, gA, gS, gZ, sA, sZ, sS]
    refine wpAnyH_ready (rs := [10]) (by kernel_rfl) (by simp) ?_
    refine AllReadyH.cons rfl (fun K' hK => ?_) AllReadyH.nil
    rw [if_pos (by rfl)]
    simp only [gA, gS, gZ]
    go_wp2_with fail
    refine (KP.out _).mono ?_
    rintro r ww ⟨rfl, v10_0, v10_1, v10_2, v10_3, v10_4, rfl⟩
    try go_wp2_with fail
    refine hK.out _ _ (⟨(Below.al (Below.al (Below.al (Below.al (Below.al hW _) _) _) _) _), (ext_al (ext_al (ext_al (ext_al (ext_al hB))))), C0, hC0, (ext_al (ext_al (ext_al (ext_al (ext_al hR)))))⟩) (fun hHeld => ?_)
    clear hK K'
    try simp only [Act.put, gA, gS, gZ, sA, sZ, sS]
    clear hW hB hC0 hR
    obtain ⟨hW, hB, C0, hC0, hR⟩ := id hHeld
    refine wpAnyH_ready (rs := [13]) (by kernel_rfl) (by simp) ?_
    refine AllReadyH.cons rfl (fun K' hK => ?_) AllReadyH.nil
    rw [if_pos (by rfl)]
    simp only [gA, gS, gZ]
    go_wp2_with fail
    refine (KQ.out _).mono ?_
    rintro r ww ⟨rfl, v11_0, v11_1, rfl⟩
    try go_wp2_with fail
    refine hK.out _ _ (⟨(Below.al (Below.al hW _) _), (ext_al (ext_al hB)), C0, hC0, (ext_al (ext_al hR))⟩) (fun hHeld => ?_)
    clear hK K'
    try simp only [Act.put, gA, gS, gZ, sA, sZ, sS]
    clear hW hB hC0 hR
    obtain ⟨hW, hB, C0, hC0, hR⟩ := id hHeld
    refine wpAnyH_ready (rs := [15]) (by kernel_rfl) (by simp) ?_
    refine AllReadyH.cons rfl (fun K' hK => ?_) AllReadyH.nil
    rw [if_pos (by rfl)]
    simp only [gA, gS, gZ]
    refine wp_store_by 31 (.tmp 2) (.tmp 40) rfl _ _ rfl rfl (store8 _ _ C0 x0 (i % 256) (i / 256) s y4 y5 y6 y7 _ hR hC0) ?_
    refine hK.out _ _ (⟨below_setRow hW (by omega) _, (setRow_other _ _ _ _ (by omega)).trans hB, _, rfl, setRow_heap _ _ _ _ _ _ hR⟩) (fun hHeld => ?_)
    clear hK K'
    try simp only [Act.put, gA, gS, gZ, sA, sZ, sS]
    refine tk 16 (.bool true) rfl (.inl ⟨by rfl, ?_⟩) ?_
    · intro w9 hSw
      try dsimp only at hSw
      go_simp
      all_goals try decide
      all_goals try assumption
      all_goals try omega
    try simp only [Act.put, gA, gS, gZ, sA, sZ, sS]
    refine wpAnyH_done (by kernel_rfl) ?_ _
    have hc := fun j => cell_of_row _ (w.heap.size + 1) j _ _ _ (setRow_heap _ _ _ (ar8 x0 (i % 256) (i / 256) s y4 y5 y6 y7) _ _ hR)
    have hb := below_setRow hW (Nat.le_succ w.heap.size) (ar8 x0 (i % 256) (i / 256) s y4 y5 y6 y7)
    clear hHeld hW hB hC0
    go_wp2_with fail
    refine bodyPost_ret (v := .tuple #[arr8 x0 (i % 256) (i / 256) s y4 y5 y6 y7, .bool true]) ?_ rfl ⟨⟨x0, (i % 256), (i / 256), s, y4, y5, y6, y7⟩, true, rfl, ?_, ?_⟩
    · simp [results, Try.results61, go_sem, hc]
    · exact hO.out
    · exact hb
#print axioms rsized_any
end Go.Proofs.Ytlnlejdjekbipaa
namespace Go.Proofs.Ytlnlejdjekbipaa
open Go.RowKit

set_option linter.unusedSimpArgs false in
set_option maxHeartbeats 4000000 in
set_option maxRecDepth 100000 in
theorem rblocked_any (C : Cm) (ok : C.Ok) (a : Option Addr) (cap : Nat) (w : World) (hr : Row w a C.d.length C.d) :
    Calls Try.prog 63 #[C.v a C.d.length cap] w (QPost w (wBlock 160 C)) := by
  have HS : Hid (∀ W, Below w.heap.size w W → Calls Try.prog 18 #[cmV C.k C.i C.s false 0 false none 0 0 false false C.c C.b 0 0 0 0, cmV C.k C.i C.s C.z C.n C.q a C.d.length cap C.t C.l C.c C.b C.e C.u C.m C.o] W fun r w' => r = .returned (.bool (C.only 385)) ∧ ∃ o1 o2, w' = (W.alloc o1).alloc o2) := fun W hb => by
    have := same_any ⟨C.k, C.i, C.s, false, 0, false, [], false, false, C.c, C.b, 0, 0, 0, 0⟩ C none 0 0 a C.d.length cap W (row_nil W) (hr.next hb)
    rw [bare_385] at this
    exact this
  obtain ⟨B4, hB4, lB4, gB4⟩ : ∃ y, bitn C.c 4 = y ∧ 0 ≤ y ∧ y ≤ 4 := ⟨_, rfl, by unfold bitn; split <;> omega, by unfold bitn; split <;> omega⟩
  have KB4 : Hid (∀ W, Calls Try.prog 34 #[.bool C.c, .int .i64 4] W fun e w' => e = .returned (.int .i64 B4) ∧ w' = W) := fun W => hB4 ▸ rbit_any C.c 4 W
  obtain ⟨x0, hx0⟩ : ∃ y, (160 + B4 : Int) % 256 = y := ⟨_, rfl⟩
  have KP : Hid (∀ W, Calls Try.prog 59 #[.int .i64 (160 + B4), .agg #[.int .u16 C.i, .int .u8 C.s]] W fun e w' => e = .returned (arr8 x0 (C.i % 256) (C.i / 256) C.s 0 0 0 0) ∧ ∃ o1 o2 o3 o4 o5, w' = ((((W.alloc o1).alloc o2).alloc o3).alloc o4).alloc o5) := fun W => hx0 ▸ placed_any (160 + B4) C.i C.s ok.i W
  obtain ⟨y4, hy4⟩ : ∃ y, IntKind.u8.wrap C.b = y := ⟨_, rfl⟩
  obtain ⟨V, hV⟩ : ∃ V, (C.only 385 && decide (1 ≤ C.b) && decide (C.b ≤ 127)) = V := ⟨_, rfl⟩
  have hO : Hid (wBlock 160 C = if V then some ⟨x0, C.i % 256, C.i / 256, C.s, y4, 0, 0, 0⟩ else none) := by
    unfold wBlock
    rw [← Bool.and_assoc, hV]
    cases V
    · rfl
    · have h1 : 1 ≤ C.b ∧ C.b ≤ 127 := by simp only [Bool.and_eq_true, decide_eq_true_iff] at hV; exact ⟨hV.1.2, hV.2⟩
      have e3 : x0 = bits .or .u8 160 (bitv C.c 4) := by rw [← hx0, ← hB4]; cases C.c <;> decide
      have e4 : y4 = C.b := by rw [← hy4, wrap8]; omega
      rw [e3, e4]
      rfl
  have hi := ok.i
  have HV : Hid _ := hV
  clear hB4 hx0 hV
  generalize C.only 385 = E at HS HV
  generalize wBlock 160 C = O at hO ⊢
  clear hr ok
  generalize hlen : C.d.length = len at HS ⊢
  obtain ⟨k, i, s, z, n, q, d, t, l, c, b, e, u, m, o⟩ := C
  clear hlen
  dsimp only at HS hO hi HV KB4 KP hy4 ⊢
  go_enter Try.func63, Try.ntmps63
  go_upto_region 1 with fail
  go_cut [4] from 5 (fun sv wx => ∃ P, sv = .pointer (some ⟨P, 0, none⟩) ∧ Hid (w.heap.size + 1 < P) ∧ Hid (Below w.heap.size w wx) ∧ Hid (wx.heap[w.heap.size]? = some (.cells (cmC k i s z n q a len cap t l c b e u m o) 36 (0, 0))) ∧ Hid (wx.heap[w.heap.size + 1]? = some (.cells (ar8 0 0 0 0 0 0 0 0) 31 (0, 0))) ∧ Hid (wx.heap[P]? = some (.cells (ar8 x0 (i % 256) (i / 256) s 0 0 0 0) 31 (0, 0))))
  case first =>
    refine wp_region_held_drew (S := fun x => Below w.heap.size w x ∧ x.heap[w.heap.size]? = some (.cells (cmC k i s z n q a len cap t l c b e u m o) 36 (0, 0)) ∧ x.heap[w.heap.size + 1]? = some (.cells (ar8 0 0 0 0 0 0 0 0) 31 (0, 0))) (by kernel_rfl) (⟨Below.drew (Below.al (Below.al (Below.refl _ _) _) _), (heap_drew _ _).trans (ext_al (heap_new _ _)), (heap_drew _ _).trans (heap_at _ _ _ (by simp))⟩) (fun hHeld => ?_)
    obtain ⟨hW, hB, hR⟩ := id hHeld
    refine tk 0 (.pointer (some ⟨w.heap.size, 9, none⟩)) rfl (.inl ⟨by rfl, ?_⟩) ?_
    · intro w9 hSw
      try dsimp only at hSw
      go_simp
      all_goals try decide
      all_goals try assumption
      all_goals try omega
    try simp only [Act.put, gA, gS, gZ, sA, sZ, sS]
    refine tk 1 (.bool c) rfl (.inl ⟨by rfl, ?_⟩) ?_
    · intro w9 hSw
      try dsimp only at hSw
      exact ex_load 4 (.tmp 5) rfl _ _ rfl (ld_4 _ _ _ _ (by rw [cell_of_row _ _ 9 _ _ _ hSw.2.1]; rfl))
    try simp only [Act.put, gA, gS, gZ, sA, sZ, sS]
    refine tk 4 (.pointer (some ⟨w.heap.size, 1, none⟩)) rfl (.inl ⟨by rfl, ?_⟩) ?_
    · intro w9 hSw
      try dsimp only at hSw
      go_simp
      all_goals try decide
      all_goals try assumption
      all_goals try omega
    try simp only [Act.put, gA, gS, gZ, sA, sZ, sS]
    refine tk 5 (.agg #[.int .u16 i, .int .u8 s]) rfl (.inl ⟨by rfl, ?_⟩) ?_
    · intro w9 hSw
      try dsimp only at hSw
      exact ex_load 24 (.tmp 9) rfl _ _ rfl (ldPl _ _ _ _ (by rw [cell_of_row _ _ 1 _ _ _ hSw.2.1]; rfl) (by rw [cell_of_row _ _ 2 _ _ _ hSw.2.1]; rfl))
    try simp only [Act.put, gA, gS, gZ, sA, sZ, sS]
    refine wpAnyH_ready (rs := [2, 7]) (by kernel_rfl) (by simp) ?_
    refine AllReadyH.cons rfl (fun K' hK => ?_) (AllReadyH.cons rfl (fun K' hK => ?_) AllReadyH.nil)
    · rw [if_pos (by rfl)]
      simp only [gA, gS, gZ]
      go_wp2_with fail
      refine (KB4.out _).mono ?_
      rintro r ww ⟨rfl, rfl⟩
      try go_wp2_with fail
      refine hK.out _ _ (⟨hW, hB, hR⟩) (fun hHeld => ?_)
      clear hK K'
      try simp only [Act.put, gA, gS, gZ, sA, sZ, sS]
      clear hW hB hR
      obtain ⟨hW, hB, hR⟩ := id hHeld
      refine tk 3 (.int .i64 (160 + B4)) rfl (.inl ⟨by rfl, ?_⟩) ?_
      · intro w9 hSw
        try dsimp only at hSw
        go_simp
        all_goals try (rw [wrapI64 _ (by omega) (by omega)])
        all_goals try decide
        all_goals try omega
      try simp only [Act.put, gA, gS, gZ, sA, sZ, sS]
      refine wpAnyH_ready (rs := [6, 7]) (by kernel_rfl) (by simp) ?_
      refine AllReadyH.cons rfl (fun K' hK => ?_) (AllReadyH.cons rfl (fun K' hK => ?_) AllReadyH.nil)
      · rw [if_pos (by rfl)]
        simp only [gA, gS, gZ]
        go_wp2_with fail
        refine (KP.out _).mono ?_
        rintro r ww ⟨rfl, v22_0, v22_1, v22_2, v22_3, v22_4, rfl⟩
        try go_wp2_with fail
        refine hK.out _ _ (⟨(Below.al (Below.al (Below.al (Below.al (Below.al hW _) _) _) _) _), (ext_al (ext_al (ext_al (ext_al (ext_al hB))))), (ext_al (ext_al (ext_al (ext_al (ext_al hR)))))⟩) (fun hHeld => ?_)
        clear hK K'
        try simp only [Act.put, gA, gS, gZ, sA, sZ, sS]
        clear hW hB hR
        obtain ⟨hW, hB, hR⟩ := id hHeld
        refine wpAnyH_ready (rs := [7]) (by kernel_rfl) (by simp) ?_
        refine AllReadyH.cons rfl (fun K' hK => ?_) AllReadyH.nil
        rw [if_pos (by rfl)]
        simp only [gA, gS, gZ]
        go_wp2_with fail
        skip
        refine hK.out _ _ (⟨(Below.al hW _), (ext_al hB), (ext_al hR)⟩) (fun hHeld => ?_)
        clear hK K'
        try simp only [Act.put, gA, gS, gZ, sA, sZ, sS]
        have hP := heap_last hW (.cells (ar8 0 0 0 0 0 0 0 0) 31) (w.heap.size + 1 + 1 + 1 + 1 + 1 + 1 + 1) (by simp)
        clear hW hB hR
        obtain ⟨hW, hB, hR⟩ := id hHeld
        refine wpAnyH_ready (rs := [8]) (by kernel_rfl) (by simp) ?_
        refine AllReadyH.cons rfl (fun K' hK => ?_) AllReadyH.nil
        rw [if_pos (by rfl)]
        simp only [gA, gS, gZ]
        refine wp_store_by 31 (.tmp 4) (.tmp 11) rfl _ _ rfl rfl (store8 _ _ _ x0 (i % 256) (i / 256) s 0 0 0 0 _ hP rfl) ?_
        refine hK.out _ _ (⟨below_setRow hW (by omega) _, (setRow_other _ _ _ _ (by omega)).trans hB, (setRow_other _ _ _ _ (by omega)).trans hR⟩) (fun hHeld => ?_)
        clear hK K'
        try simp only [Act.put, gA, gS, gZ, sA, sZ, sS]
        have hP2 := setRow_heap _ _ _ (ar8 x0 (i % 256) (i / 256) s 0 0 0 0) _ _ hP
        clear hW hB hR hP
        obtain ⟨hW, hB, hR⟩ := id hHeld
        refine wpAnyH_done (by kernel_rfl) ?_ _
        go_wp2_with fail
        go_meet
        exact ⟨_, rfl, (by show _ < _; omega), hW, hB, hR, hP2⟩
      · rw [if_pos (by rfl)]
        simp only [gA, gS, gZ]
        go_wp2_with fail
        skip
        refine hK.out _ _ (⟨(Below.al hW _), (ext_al hB), (ext_al hR)⟩) (fun hHeld => ?_)
        clear hK K'
        try simp only [Act.put, gA, gS, gZ, sA, sZ, sS]
        have hP := heap_last hW (.cells (ar8 0 0 0 0 0 0 0 0) 31) (w.heap.size + 1 + 1) (by simp)
        clear hW hB hR
        obtain ⟨hW, hB, hR⟩ := id hHeld
        refine wpAnyH_ready (rs := [6]) (by kernel_rfl) (by simp) ?_
        refine AllReadyH.cons rfl (fun K' hK => ?_) AllReadyH.nil
        rw [if_pos (by rfl)]
        simp only [gA, gS, gZ]
        go_wp2_with fail
        refine (KP.out _).mono ?_
        rintro r ww ⟨rfl, v23_0, v23_1, v23_2, v23_3, v23_4, rfl⟩
        try go_wp2_with fail
        refine hK.out _ _ (⟨(Below.al (Below.al (Below.al (Below.al (Below.al hW _) _) _) _) _), (ext_al (ext_al (ext_al (ext_al (ext_al hB))))), (ext_al (ext_al (ext_al (ext_al (ext_al hR)))))⟩) (fun hHeld => ?_)
        clear hK K'
        try simp only [Act.put, gA, gS, gZ, sA, sZ, sS]
        clear hW hB hR
        obtain ⟨hW, hB, hR⟩ := id hHeld
        replace hP := (ext_al (o := v23_4) (ext_al (o := v23_3) (ext_al (o := v23_2) (ext_al (o := v23_1) (ext_al (o := v23_0) hP)))))
        refine wpAnyH_ready (rs := [8]) (by kernel_rfl) (by simp) ?_
        refine AllReadyH.cons rfl (fun K' hK => ?_) AllReadyH.nil
        rw [if_pos (by rfl)]
        simp only [gA, gS, gZ]
        refine wp_store_by 31 (.tmp 4) (.tmp 11) rfl _ _ rfl rfl (store8 _ _ _ x0 (i % 256) (i / 256) s 0 0 0 0 _ hP rfl) ?_
        refine hK.out _ _ (⟨below_setRow hW (by omega) _, (setRow_other _ _ _ _ (by omega)).trans hB, (setRow_other _ _ _ _ (by omega)).trans hR⟩) (fun hHeld => ?_)
        clear hK K'
        try simp only [Act.put, gA, gS, gZ, sA, sZ, sS]
        have hP2 := setRow_heap _ _ _ (ar8 x0 (i % 256) (i / 256) s 0 0 0 0) _ _ hP
        clear hW hB hR hP
        obtain ⟨hW, hB, hR⟩ := id hHeld
        refine wpAnyH_done (by kernel_rfl) ?_ _
        go_wp2_with fail
        go_meet
        exact ⟨_, rfl, (by show _ < _; omega), hW, hB, hR, hP2⟩
    · rw [if_pos (by rfl)]
      simp only [gA, gS, gZ]
      go_wp2_with fail
      skip
      refine hK.out _ _ (⟨(Below.al hW _), (ext_al hB), (ext_al hR)⟩) (fun hHeld => ?_)
      clear hK K'
      try simp only [Act.put, gA, gS, gZ, sA, sZ, sS]
      have hP := heap_last hW (.cells (ar8 0 0 0 0 0 0 0 0) 31) (w.heap.size + 1 + 1) (by simp)
      clear hW hB hR
      obtain ⟨hW, hB, hR⟩ := id hHeld
      refine wpAnyH_ready (rs := [2]) (by kernel_rfl) (by simp) ?_
      refine AllReadyH.cons rfl (fun K' hK => ?_) AllReadyH.nil
      rw [if_pos (by rfl)]
      simp only [gA, gS, gZ]
      go_wp2_with fail
      refine (KB4.out _).mono ?_
      rintro r ww ⟨rfl, rfl⟩
      try go_wp2_with fail
      refine hK.out _ _ (⟨hW, hB, hR⟩) (fun hHeld => ?_)
      clear hK K'
      try simp only [Act.put, gA, gS, gZ, sA, sZ, sS]
      clear hW hB hR
      obtain ⟨hW, hB, hR⟩ := id hHeld
      refine tk 3 (.int .i64 (160 + B4)) rfl (.inl ⟨by rfl, ?_⟩) ?_
      · intro w9 hSw
        try dsimp only at hSw
        go_simp
        all_goals try (rw [wrapI64 _ (by omega) (by omega)])
        all_goals try decide
        all_goals try omega
      try simp only [Act.put, gA, gS, gZ, sA, sZ, sS]
      refine wpAnyH_ready (rs := [6]) (by kernel_rfl) (by simp) ?_
      refine AllReadyH.cons rfl (fun K' hK => ?_) AllReadyH.nil
      rw [if_pos (by rfl)]
      simp only [gA, gS, gZ]
      go_wp2_with fail
      refine (KP.out _).mono ?_
      rintro r ww ⟨rfl, v24_0, v24_1, v24_2, v24_3, v24_4, rfl⟩
      try go_wp2_with fail
      refine hK.out _ _ (⟨(Below.al (Below.al (Below.al (Below.al (Below.al hW _) _) _) _) _), (ext_al (ext_al (ext_al (ext_al (ext_al hB))))), (ext_al (ext_al (ext_al (ext_al (ext_al hR)))))⟩) (fun hHeld => ?_)
      clear hK K'
      try simp only [Act.put, gA, gS, gZ, sA, sZ, sS]
      clear hW hB hR
      obtain ⟨hW, hB, hR⟩ := id hHeld
      replace hP := (ext_al (o := v24_4) (ext_al (o := v24_3) (ext_al (o := v24_2) (ext_al (o := v24_1) (ext_al (o := v24_0) hP)))))
      refine wpAnyH_ready (rs := [8]) (by kernel_rfl) (by simp) ?_
      refine AllReadyH.cons rfl (fun K' hK => ?_) AllReadyH.nil
      rw [if_pos (by rfl)]
      simp only [gA, gS, gZ]
      refine wp_store_by 31 (.tmp 4) (.tmp 11) rfl _ _ rfl rfl (store8 _ _ _ x0 (i % 256) (i / 256) s 0 0 0 0 _ hP rfl) ?_
      refine hK.out _ _ (⟨below_setRow hW (by omega) _, (setRow_other _ _ _ _ (by omega)).trans hB, (setRow_other _ _ _ _ (by omega)).trans hR⟩) (fun hHeld => ?_)
      clear hK K'
      try simp only [Act.put, gA, gS, gZ, sA, sZ, sS]
      have hP2 := setRow_heap _ _ _ (ar8 x0 (i % 256) (i / 256) s 0 0 0 0) _ _ hP
      clear hW hB hR hP
      obtain ⟨hW, hB, hR⟩ := id hHeld
      refine wpAnyH_done (by kernel_rfl) ?_ _
      go_wp2_with fail
      go_meet
      exact ⟨_, rfl, (by show _ < _; omega), hW, hB, hR, hP2⟩
  case rest =>
    obtain ⟨P, rfl, hcS, hcW, hcB, hcR, hcP⟩ := hcut
    replace hcS := hcS.out
    replace hcW := hcW.out
    replace hcB := hcB.out
    replace hcR := hcR.out
    replace hcP := hcP.out
    have cc : wc.cell? ⟨w.heap.size, 10, none⟩ = some (.int .i64 b) := by rw [cell_of_row wc _ 10 _ _ _ hcB]; rfl
    go_upto_region 2 with fail
    go_cut [] from 5 (fun wx => Hid (Below w.heap.size w wx) ∧ Hid (wx.heap[w.heap.size]? = some (.cells (cmC k i s z n q a len cap t l c b e u m o) 36 (0, 0))) ∧ Hid (wx.heap[w.heap.size + 1]? = some (.cells (ar8 0 0 0 0 0 0 0 0) 31 (0, 0))) ∧ Hid (wx.heap[P]? = some (.cells (ar8 x0 (i % 256) (i / 256) s y4 0 0 0) 31 (0, 0))))
    case first =>
      go_wp2_with (refine wpList_store_by rfl 5 _ _ rfl _ _ rfl rfl (store1 _ P 4 _ _ (ar8 x0 (i % 256) (i / 256) s y4 0 0 0) _ hcP rfl (by decide) rfl) ?_)
      go_meet
      exact ⟨below_setRow hcW (by omega) _, (setRow_other _ _ _ _ (by omega)).trans hcB, (setRow_other _ _ _ _ (by omega)).trans hcR, setRow_heap _ _ _ _ _ _ hcP⟩
    case rest =>
      clear cc hcW hcB hcR hcP
      obtain ⟨hcW, hcB, hcR, hcP⟩ := hcut
      replace hcW := hcW.out
      replace hcB := hcB.out
      replace hcR := hcR.out
      replace hcP := hcP.out
      have e2 := HV.out
      clear HV
      cases E
      · obtain rfl : false = V := by rw [← e2]; simp
        clear e2
        go_wp2_with fail
        refine wp_region_held_drew (S := fun x => Below w.heap.size w x ∧ x.heap[w.heap.size]? = some (.cells (cmC k i s z n q a len cap t l c b e u m o) 36 (0, 0)) ∧ ∃ C : Array Value, C.size = 8 ∧ x.heap[w.heap.size + 1]? = some (.cells C 31 (0, 0)) ∧ x.heap[P]? = some (.cells (ar8 x0 (i % 256) (i / 256) s y4 0 0 0) 31 (0, 0))) (by kernel_rfl) (⟨Below.drew hcW, (heap_drew _ _).trans hcB, ar8 0 0 0 0 0 0 0 0, rfl, (heap_drew _ _).trans hcR, (heap_drew _ _).trans hcP⟩) (fun hHeld => ?_)
        obtain ⟨hW, hB, C0, hC0, hR, hA0⟩ := id hHeld
        refine tk 0 (arr8 x0 (i % 256) (i / 256) s y4 0 0 0) rfl (.inl ⟨by rfl, ?_⟩) ?_
        · intro w9 hSw
          try dsimp only at hSw
          obtain ⟨_, _, _, _, _, hA⟩ := hSw
          exact ex_load 31 (.tmp 4) rfl _ _ rfl (load8 _ _ _ _ _ _ _ _ _ _ _ hA)
        try simp only [Act.put, gA, gS, gZ, sA, sZ, sS]
        refine tk 1 (.pointer (some ⟨w.heap.size, 0, none⟩)) rfl (.inl ⟨by rfl, ?_⟩) ?_
        · intro w9 hSw
          try dsimp only at hSw
          go_simp
          all_goals try decide
          all_goals try assumption
          all_goals try omega
        try simp only [Act.put, gA, gS, gZ, sA, sZ, sS]
        refine tk 2 (.int .u8 k) rfl (.inl ⟨by rfl, ?_⟩) ?_
        · intro w9 hSw
          try dsimp only at hSw
          exact ex_load 5 (.tmp 17) rfl _ _ rfl (ld_5 _ _ _ _ (by rw [cell_of_row _ _ 0 _ _ _ hSw.2.1]; rfl))
        try simp only [Act.put, gA, gS, gZ, sA, sZ, sS]
        refine tk 3 (.pointer (some ⟨w.heap.size, 1, none⟩)) rfl (.inl ⟨by rfl, ?_⟩) ?_
        · intro w9 hSw
          try dsimp only at hSw
          go_simp
          all_goals try decide
          all_goals try assumption
          all_goals try omega
        try simp only [Act.put, gA, gS, gZ, sA, sZ, sS]
        refine tk 4 (.agg #[.int .u16 i, .int .u8 s]) rfl (.inl ⟨by rfl, ?_⟩) ?_
        · intro w9 hSw
          try dsimp only at hSw
          exact ex_load 24 (.tmp 19) rfl _ _ rfl (ldPl _ _ _ _ (by rw [cell_of_row _ _ 1 _ _ _ hSw.2.1]; rfl) (by rw [cell_of_row _ _ 2 _ _ _ hSw.2.1]; rfl))
        try simp only [Act.put, gA, gS, gZ, sA, sZ, sS]
        refine tk 5 (.pointer (some ⟨w.heap.size, 9, none⟩)) rfl (.inl ⟨by rfl, ?_⟩) ?_
        · intro w9 hSw
          try dsimp only at hSw
          go_simp
          all_goals try decide
          all_goals try assumption
          all_goals try omega
        try simp only [Act.put, gA, gS, gZ, sA, sZ, sS]
        refine tk 6 (.bool c) rfl (.inl ⟨by rfl, ?_⟩) ?_
        · intro w9 hSw
          try dsimp only at hSw
          exact ex_load 4 (.tmp 21) rfl _ _ rfl (ld_4 _ _ _ _ (by rw [cell_of_row _ _ 9 _ _ _ hSw.2.1]; rfl))
        try simp only [Act.put, gA, gS, gZ, sA, sZ, sS]
        refine tk 7 (.pointer (some ⟨w.heap.size, 10, none⟩)) rfl (.inl ⟨by rfl, ?_⟩) ?_
        · intro w9 hSw
          try dsimp only at hSw
          go_simp
          all_goals try decide
          all_goals try assumption
          all_goals try omega
        try simp only [Act.put, gA, gS, gZ, sA, sZ, sS]
        refine tk 8 (.int .i64 b) rfl (.inl ⟨by rfl, ?_⟩) ?_
        · intro w9 hSw
          try dsimp only at hSw
          exact ex_load 3 (.tmp 23) rfl _ _ rfl (ld_3 _ _ _ _ (by rw [cell_of_row _ _ 10 _ _ _ hSw.2.1]; rfl))
        try simp only [Act.put, gA, gS, gZ, sA, sZ, sS]
        refine tk 9 (cmV k i s false 0 false none 0 0 false false c b 0 0 0 0) rfl (.inl ⟨by rfl, ?_⟩) ?_
        · intro w9 hSw
          try dsimp only at hSw
          go_simp
          all_goals try decide
          all_goals try assumption
          all_goals try omega
        try simp only [Act.put, gA, gS, gZ, sA, sZ, sS]
        refine tk 10 (cmV k i s z n q a len cap t l c b e u m o) rfl (.inl ⟨by rfl, ?_⟩) ?_
        · intro w9 hSw
          try dsimp only at hSw
          exact ex_load 36 (.tmp 1) rfl _ _ rfl (loadRC _ _ _ _ _ _ _ _ _ _ _ _ _ _ _ _ _ _ _ _ hSw.2.1)
        try simp only [Act.put, gA, gS, gZ, sA, sZ, sS]
        refine wpAnyH_ready (rs := [11]) (by kernel_rfl) (by simp) ?_
        refine AllReadyH.cons rfl (fun K' hK => ?_) AllReadyH.nil
        rw [if_pos (by rfl)]
        simp only [gA, gS, gZ]
        go_wp2_with fail
        refine (HS.out _ hW).mono ?_
        rintro r ww ⟨rfl, v25_0, v25_1, rfl⟩
        try go_wp2_with fail
        refine hK.out _ _ (⟨(Below.al (Below.al hW _) _), (ext_al (ext_al hB)), C0, hC0, (ext_al (ext_al hR)), (ext_al (ext_al hA0))⟩) (fun hHeld => ?_)
        clear hK K'
        try simp only [Act.put, gA, gS, gZ, sA, sZ, sS]
        clear hW hB hC0 hR hA0
        obtain ⟨hW, hB, C0, hC0, hR, hA0⟩ := id hHeld
        refine tk 12 (.bool false) rfl (.inl ⟨by rfl, ?_⟩) ?_
        · intro w9 hSw
          try dsimp only at hSw
          go_simp
          all_goals try decide
          all_goals try assumption
          all_goals try omega
        try simp only [Act.put, gA, gS, gZ, sA, sZ, sS]
        refine tk 13 undef rfl (.inr ⟨by rfl, rfl⟩) ?_
        try simp only [Act.put, gA, gS, gZ, sA, sZ, sS]
        refine tk 14 undef rfl (.inr ⟨by rfl, rfl⟩) ?_
        try simp only [Act.put, gA, gS, gZ, sA, sZ, sS]
        refine tk 15 undef rfl (.inr ⟨by rfl, rfl⟩) ?_
        try simp only [Act.put, gA, gS, gZ, sA, sZ, sS]
        refine tk 16 (.bool false) rfl (.inl ⟨by rfl, ?_⟩) ?_
        · intro w9 hSw
          try dsimp only at hSw
          go_simp
          all_goals try decide
          all_goals try assumption
          all_goals try omega
        try simp only [Act.put, gA, gS, gZ, sA, sZ, sS]
        refine tk 17 (.bool false) rfl (.inl ⟨by rfl, ?_⟩) ?_
        · intro w9 hSw
          try dsimp only at hSw
          go_simp
          all_goals try decide
          all_goals try assumption
          all_goals try omega
        try simp only [Act.put, gA, gS, gZ, sA, sZ, sS]
        refine tk 18 undef rfl (.inr ⟨by rfl, rfl⟩) ?_
        try simp only [Act.put, gA, gS, gZ, sA, sZ, sS]
        refine tk 19 undef rfl (.inr ⟨by rfl, rfl⟩) ?_
        try simp only [Act.put, gA, gS, gZ, sA, sZ, sS]
        refine tk 20 undef rfl (.inr ⟨by rfl, rfl⟩) ?_
        try simp only [Act.put, gA, gS, gZ, sA, sZ, sS]
        refine tk 21 (.bool false) rfl (.inl ⟨by rfl, ?_⟩) ?_
        · intro w9 hSw
          try dsimp only at hSw
          go_simp
          all_goals try decide
          all_goals try assumption
          all_goals try omega
        try simp only [Act.put, gA, gS, gZ, sA, sZ, sS]
        refine wpAnyH_ready (rs := [22]) (by kernel_rfl) (by simp) ?_
        refine AllReadyH.cons rfl (fun K' hK => ?_) AllReadyH.nil
        rw [if_pos (by rfl)]
        simp only [gA, gS, gZ]
        refine wp_store_by 31 (.tmp 2) (.tmp 16) rfl _ _ rfl rfl (store8 _ _ C0 x0 (i % 256) (i / 256) s y4 0 0 0 _ hR hC0) ?_
        refine hK.out _ _ (⟨below_setRow hW (by omega) _, (setRow_other _ _ _ _ (by omega)).trans hB, _, rfl, setRow_heap _ _ _ _ _ _ hR, (setRow_other _ _ _ _ (by omega)).trans hA0⟩) (fun hHeld => ?_)
        clear hK K'
        try simp only [Act.put, gA, gS, gZ, sA, sZ, sS]
        refine tk 23 (.bool false) rfl (.inl ⟨by rfl, ?_⟩) ?_
        · intro w9 hSw
          try dsimp only at hSw
          go_simp
          all_goals try decide
          all_goals try assumption
          all_goals try omega
        try simp only [Act.put, gA, gS, gZ, sA, sZ, sS]
        refine wpAnyH_done (by kernel_rfl) ?_ _
        have hc := fun j => cell_of_row _ (w.heap.size + 1) j _ _ _ (setRow_heap _ _ _ (ar8 x0 (i % 256) (i / 256) s y4 0 0 0) _ _ hR)
        have hb := below_setRow hW (Nat.le_succ w.heap.size) (ar8 x0 (i % 256) (i / 256) s y4 0 0 0)
        clear hHeld hW hB hC0
        go_wp2_with fail
        refine bodyPost_ret (v := .tuple #[arr8 x0 (i % 256) (i / 256) s y4 0 0 0, .bool false]) ?_ rfl ⟨⟨x0, (i % 256), (i / 256), s, y4, 0, 0, 0⟩, false, rfl, ?_, ?_⟩
        · simp [results, Try.results63, go_sem, hc]
        · exact hO.out
        · exact hb
      by_cases h0 : 1 ≤ b
      · by_cases h1 : b ≤ 127
        · obtain rfl : true = V := by rw [← e2]; simp [h0, h1]
          clear e2
          go_wp2_with fail
          refine wp_region_held_drew (S := fun x => Below w.heap.size w x ∧ x.heap[w.heap.size]? = some (.cells (cmC k i s z n q a len cap t l c b e u m o) 36 (0, 0)) ∧ ∃ C : Array Value, C.size = 8 ∧ x.heap[w.heap.size + 1]? = some (.cells C 31 (0, 0)) ∧ x.heap[P]? = some (.cells (ar8 x0 (i % 256) (i / 256) s y4 0 0 0) 31 (0, 0))) (by kernel_rfl) (⟨Below.drew hcW, (heap_drew _ _).trans hcB, ar8 0 0 0 0 0 0 0 0, rfl, (heap_drew _ _).trans hcR, (heap_drew _ _).trans hcP⟩) (fun hHeld => ?_)
          obtain ⟨hW, hB, C0, hC0, hR, hA0⟩ := id hHeld
          refine tk 0 (arr8 x0 (i % 256) (i / 256) s y4 0 0 0) rfl (.inl ⟨by rfl, ?_⟩) ?_
          · intro w9 hSw
            try dsimp only at hSw
            obtain ⟨_, _, _, _, _, hA⟩ := hSw
            exact ex_load 31 (.tmp 4) rfl _ _ rfl (load8 _ _ _ _ _ _ _ _ _ _ _ hA)
          try simp only [Act.put, gA, gS, gZ, sA, sZ, sS]
          refine tk 1 (.pointer (some ⟨w.heap.size, 0, none⟩)) rfl (.inl ⟨by rfl, ?_⟩) ?_
          · intro w9 hSw
            try dsimp only at hSw
            go_simp
            all_goals try decide
            all_goals try assumption
            all_goals try omega
          try simp only [Act.put, gA, gS, gZ, sA, sZ, sS]
          refine tk 2 (.int .u8 k) rfl (.inl ⟨by rfl, ?_⟩) ?_
          · intro w9 hSw
            try dsimp only at hSw
            exact ex_load 5 (.tmp 17) rfl _ _ rfl (ld_5 _ _ _ _ (by rw [cell_of_row _ _ 0 _ _ _ hSw.2.1]; rfl))
          try simp only [Act.put, gA, gS, gZ, sA, sZ, sS]
          refine tk 3 (.pointer (some ⟨w.heap.size, 1, none⟩)) rfl (.inl ⟨by rfl, ?_⟩) ?_
          · intro w9 hSw
            try dsimp only at hSw
            go_simp
            all_goals try decide
            all_goals try assumption
            all_goals try omega
          try simp only [Act.put, gA, gS, gZ, sA, sZ, sS]
          refine tk 4 (.agg #[.int .u16 i, .int .u8 s]) rfl (.inl ⟨by rfl, ?_⟩) ?_
          · intro w9 hSw
            try dsimp only at hSw
            exact ex_load 24 (.tmp 19) rfl _ _ rfl (ldPl _ _ _ _ (by rw [cell_of_row _ _ 1 _ _ _ hSw.2.1]; rfl) (by rw [cell_of_row _ _ 2 _ _ _ hSw.2.1]; rfl))
          try simp only [Act.put, gA, gS, gZ, sA, sZ, sS]
          refine tk 5 (.pointer (some ⟨w.heap.size, 9, none⟩)) rfl (.inl ⟨by rfl, ?_⟩) ?_
          · intro w9 hSw
            try dsimp only at hSw
            go_simp
            all_goals try decide
            all_goals try assumption
            all_goals try omega
          try simp only [Act.put, gA, gS, gZ, sA, sZ, sS]
          refine tk 6 (.bool c) rfl (.inl ⟨by rfl, ?_⟩) ?_
          · intro w9 hSw
            try dsimp only at hSw
            exact ex_load 4 (.tmp 21) rfl _ _ rfl (ld_4 _ _ _ _ (by rw [cell_of_row _ _ 9 _ _ _ hSw.2.1]; rfl))
          try simp only [Act.put, gA, gS, gZ, sA, sZ, sS]
          refine tk 7 (.pointer (some ⟨w.heap.size, 10, none⟩)) rfl (.inl ⟨by rfl, ?_⟩) ?_
          · intro w9 hSw
            try dsimp only at hSw
            go_simp
            all_goals try decide
            all_goals try assumption
            all_goals try omega
          try simp only [Act.put, gA, gS, gZ, sA, sZ, sS]
          refine tk 8 (.int .i64 b) rfl (.inl ⟨by rfl, ?_⟩) ?_
          · intro w9 hSw
            try dsimp only at hSw
            exact ex_load 3 (.tmp 23) rfl _ _ rfl (ld_3 _ _ _ _ (by rw [cell_of_row _ _ 10 _ _ _ hSw.2.1]; rfl))
          try simp only [Act.put, gA, gS, gZ, sA, sZ, sS]
          refine tk 9 (cmV k i s false 0 false none 0 0 false false c b 0 0 0 0) rfl (.inl ⟨by rfl, ?_⟩) ?_
          · intro w9 hSw
            try dsimp only at hSw
            go_simp
            all_goals try decide
            all_goals try assumption
            all_goals try omega
          try simp only [Act.put, gA, gS, gZ, sA, sZ, sS]
          refine tk 10 (cmV k i s z n q a len cap t l c b e u m o) rfl (.inl ⟨by rfl, ?_⟩) ?_
          · intro w9 hSw
            try dsimp only at hSw
            exact ex_load 36 (.tmp 1) rfl _ _ rfl (loadRC _ _ _ _ _ _ _ _ _ _ _ _ _ _ _ _ _ _ _ _ hSw.2.1)
          try simp only [Act.put, gA, gS, gZ, sA, sZ, sS]
          refine wpAnyH_ready (rs := [11]) (by kernel_rfl) (by simp) ?_
          refine AllReadyH.cons rfl (fun K' hK => ?_) AllReadyH.nil
          rw [if_pos (by rfl)]
          simp only [gA, gS, gZ]
          go_wp2_with fail
          refine (HS.out _ hW).mono ?_
          rintro r ww ⟨rfl, v26_0, v26_1, rfl⟩
          try go_wp2_with fail
          refine hK.out _ _ (⟨(Below.al (Below.al hW _) _), (ext_al (ext_al hB)), C0, hC0, (ext_al (ext_al hR)), (ext_al (ext_al hA0))⟩) (fun hHeld => ?_)
          clear hK K'
          try simp only [Act.put, gA, gS, gZ, sA, sZ, sS]
          clear hW hB hC0 hR hA0
          obtain ⟨hW, hB, C0, hC0, hR, hA0⟩ := id hHeld
          refine tk 12 (.bool true) rfl (.inl ⟨by rfl, ?_⟩) ?_
          · intro w9 hSw
            try dsimp only at hSw
            go_simp
            all_goals try decide
            all_goals try assumption
            all_goals try omega
          try simp only [Act.put, gA, gS, gZ, sA, sZ, sS]
          refine tk 13 (.pointer (some ⟨w.heap.size, 10, none⟩)) rfl (.inl ⟨by rfl, ?_⟩) ?_
          · intro w9 hSw
            try dsimp only at hSw
            go_simp
            all_goals try decide
            all_goals try assumption
            all_goals try omega
          try simp only [Act.put, gA, gS, gZ, sA, sZ, sS]
          refine tk 14 (.int .i64 b) rfl (.inl ⟨by rfl, ?_⟩) ?_
          · intro w9 hSw
            try dsimp only at hSw
            exact ex_load 3 (.tmp 29) rfl _ _ rfl (ld_3 _ _ _ _ (by rw [cell_of_row _ _ 10 _ _ _ hSw.2.1]; rfl))
          try simp only [Act.put, gA, gS, gZ, sA, sZ, sS]
          refine tk 15 (.bool true) rfl (.inl ⟨by rfl, ?_⟩) ?_
          · intro w9 hSw
            try dsimp only at hSw
            go_simp
            all_goals try decide
            all_goals try omega
          try simp only [Act.put, gA, gS, gZ, sA, sZ, sS]
          refine tk 16 (.bool true) rfl (.inl ⟨by rfl, ?_⟩) ?_
          · intro w9 hSw
            try dsimp only at hSw
            go_simp
            all_goals try decide
            all_goals try assumption
            all_goals try omega
          try simp only [Act.put, gA, gS, gZ, sA, sZ, sS]
          refine tk 17 (.bool true) rfl (.inl ⟨by rfl, ?_⟩) ?_
          · intro w9 hSw
            try dsimp only at hSw
            go_simp
            all_goals try decide
            all_goals try assumption
            all_goals try omega
          try simp only [Act.put, gA, gS, gZ, sA, sZ, sS]
          refine tk 18 (.pointer (some ⟨w.heap.size, 10, none⟩)) rfl (.inl ⟨by rfl, ?_⟩) ?_
          · intro w9 hSw
            try dsimp only at hSw
            go_simp
            all_goals try decide
            all_goals try assumption
            all_goals try omega
          try simp only [Act.put, gA, gS, gZ, sA, sZ, sS]
          refine tk 19 (.int .i64 b) rfl (.inl ⟨by rfl, ?_⟩) ?_
          · intro w9 hSw
            try dsimp only at hSw
            exact ex_load 3 (.tmp 34) rfl _ _ rfl (ld_3 _ _ _ _ (by rw [cell_of_row _ _ 10 _ _ _ hSw.2.1]; rfl))
          try simp only [Act.put, gA, gS, gZ, sA, sZ, sS]
          refine tk 20 (.bool true) rfl (.inl ⟨by rfl, ?_⟩) ?_
          · intro w9 hSw
            try dsimp only at hSw
            go_simp
            all_goals try decide
            all_goals try omega
          try simp only [Act.put, gA, gS, gZ, sA, sZ, sS]
          refine tk 21 (.bool true) rfl (.inl ⟨by rfl, ?_⟩) ?_
          · intro w9 hSw
            try dsimp only at hSw
            go_simp
            all_goals try decide
            all_goals try assumption
            all_goals try omega
          try simp only [Act.put, gA, gS, gZ, sA, sZ, sS]
          refine wpAnyH_ready (rs := [22]) (by kernel_rfl) (by simp) ?_
          refine AllReadyH.cons rfl (fun K' hK => ?_) AllReadyH.nil
          rw [if_pos (by rfl)]
          simp only [gA, gS, gZ]
          refine wp_store_by 31 (.tmp 2) (.tmp 16) rfl _ _ rfl rfl (store8 _ _ C0 x0 (i % 256) (i / 256) s y4 0 0 0 _ hR hC0) ?_
          refine hK.out _ _ (⟨below_setRow hW (by omega) _, (setRow_other _ _ _ _ (by omega)).trans hB, _, rfl, setRow_heap _ _ _ _ _ _ hR, (setRow_other _ _ _ _ (by omega)).trans hA0⟩) (fun hHeld => ?_)
          clear hK K'
          try simp only [Act.put, gA, gS, gZ, sA, sZ, sS]
          refine tk 23 (.bool true) rfl (.inl ⟨by rfl, ?_⟩) ?_
          · intro w9 hSw
            try dsimp only at hSw
            go_simp
            all_goals try decide
            all_goals try assumption
            all_goals try omega
          try simp only [Act.put, gA, gS, gZ, sA, sZ, sS]
          refine wpAnyH_done (by kernel_rfl) ?_ _
          have hc := fun j => cell_of_row _ (w.heap.size + 1) j _ _ _ (setRow_heap _ _ _ (ar8 x0 (i % 256) (i / 256) s y4 0 0 0) _ _ hR)
          have hb := below_setRow hW (Nat.le_succ w.heap.size) (ar8 x0 (i % 256) (i / 256) s y4 0 0 0)
          clear hHeld hW hB hC0
          go_wp2_with fail
          refine bodyPost_ret (v := .tuple #[arr8 x0 (i % 256) (i / 256) s y4 0 0 0, .bool true]) ?_ rfl ⟨⟨x0, (i % 256), (i / 256), s, y4, 0, 0, 0⟩, true, rfl, ?_, ?_⟩
          · simp [results, Try.results63, go_sem, hc]
          · exact hO.out
          · exact hb
        · obtain rfl : false = V := by rw [← e2]; simp [h0, h1]
          clear e2
          go_wp2_with fail
          refine wp_region_held_drew (S := fun x => Below w.heap.size w x ∧ x.heap[w.heap.size]? = some (.cells (cmC k i s z n q a len cap t l c b e u m o) 36 (0, 0)) ∧ ∃ C : Array Value, C.size = 8 ∧ x.heap[w.heap.size + 1]? = some (.cells C 31 (0, 0)) ∧ x.heap[P]? = some (.cells (ar8 x0 (i % 256) (i / 256) s y4 0 0 0) 31 (0, 0))) (by kernel_rfl) (⟨Below.drew hcW, (heap_drew _ _).trans hcB, ar8 0 0 0 0 0 0 0 0, rfl, (heap_drew _ _).trans hcR, (heap_drew _ _).trans hcP⟩) (fun hHeld => ?_)
          obtain ⟨hW, hB, C0, hC0, hR, hA0⟩ := id hHeld
          refine tk 0 (arr8 x0 (i % 256) (i / 256) s y4 0 0 0) rfl (.inl ⟨by rfl, ?_⟩) ?_
          · intro w9 hSw
            try dsimp only at hSw
            obtain ⟨_, _, _, _, _, hA⟩ := hSw
            exact ex_load 31 (.tmp 4) rfl _ _ rfl (load8 _ _ _ _ _ _ _ _ _ _ _ hA)
          try simp only [Act.put, gA, gS, gZ, sA, sZ, sS]
          refine tk 1 (.pointer (some ⟨w.heap.size, 0, none⟩)) rfl (.inl ⟨by rfl, ?_⟩) ?_
          · intro w9 hSw
            try dsimp only at hSw
            go_simp
            all_goals try decide
            all_goals try assumption
            all_goals try omega
          try simp only [Act.put, gA, gS, gZ, sA, sZ, sS]
          refine tk 2 (.int .u8 k) rfl (.inl ⟨by rfl, ?_⟩) ?_
          · intro w9 hSw
            try dsimp only at hSw
            exact ex_load 5 (.tmp 17) rfl _ _ rfl (ld_5 _ _ _ _ (by rw [cell_of_row _ _ 0 _ _ _ hSw.2.1]; rfl))
          try simp only [Act.put, gA, gS, gZ, sA, sZ, sS]
          refine tk 3 (.pointer (some ⟨w.heap.size, 1, none⟩)) rfl (.inl ⟨by rfl, ?_⟩) ?_
          · intro w9 hSw
            try dsimp only at hSw
            go_simp
            all_goals try decide
            all_goals try assumption
            all_goals try omega
          try simp only [Act.put, gA, gS, gZ, sA, sZ, sS]
          refine tk 4 (.agg #[.int .u16 i, .int .u8 s]) rfl (.inl ⟨by rfl, ?_⟩) ?_
          · intro w9 hSw
            try dsimp only at hSw
            exact ex_load 24 (.tmp 19) rfl _ _ rfl (ldPl _ _ _ _ (by rw [cell_of_row _ _ 1 _ _ _ hSw.2.1]; rfl) (by rw [cell_of_row _ _ 2 _ _ _ hSw.2.1]; rfl))
          try simp only [Act.put, gA, gS, gZ, sA, sZ, sS]
          refine tk 5 (.pointer (some ⟨w.heap.size, 9, none⟩)) rfl (.inl ⟨by rfl, ?_⟩) ?_
          · intro w9 hSw
            try dsimp only at hSw
            go_simp
            all_goals try decide
            all_goals try assumption
            all_goals try omega
          try simp only [Act.put, gA, gS, gZ, sA, sZ, sS]
          refine tk 6 (.bool c) rfl (.inl ⟨by rfl, ?_⟩) ?_
          · intro w9 hSw
            try dsimp only at hSw
            exact ex_load 4 (.tmp 21) rfl _ _ rfl (ld_4 _ _ _ _ (by rw [cell_of_row _ _ 9 _ _ _ hSw.2.1]; rfl))
          try simp only [Act.put, gA, gS, gZ, sA, sZ, sS]
          refine tk 7 (.pointer (some ⟨w.heap.size, 10, none⟩)) rfl (.inl ⟨by rfl, ?_⟩) ?_
          · intro w9 hSw
            try dsimp only at hSw
            go_simp
            all_goals try decide
            all_goals try assumption
            all_goals try omega
          try simp only [Act.put, gA, gS, gZ, sA, sZ, sS]
          refine tk 8 (.int .i64 b) rfl (.inl ⟨by rfl, ?_⟩) ?_
          · intro w9 hSw
            try dsimp only at hSw
            exact ex_load 3 (.tmp 23) rfl _ _ rfl (ld_3 _ _ _ _ (by rw [cell_of_row _ _ 10 _ _ _ hSw.2.1]; rfl))
          try simp only [Act.put, gA, gS, gZ, sA, sZ, sS]
          refine tk 9 (cmV k i s false 0 false none 0 0 false false c b 0 0 0 0) rfl (.inl ⟨by rfl, ?_⟩) ?_
          · intro w9 hSw
            try dsimp only at hSw
            go_simp
            all_goals try decide
            all_goals try assumption
            all_goals try omega
          try simp only [Act.put, gA, gS, gZ, sA, sZ, sS]
          refine tk 10 (cmV k i s z n q a len cap t l c b e u m o) rfl (.inl ⟨by rfl, ?_⟩) ?_
          · intro w9 hSw
            try dsimp only at hSw
            exact ex_load 36 (.tmp 1) rfl _ _ rfl (loadRC _ _ _ _ _ _ _ _ _ _ _ _ _ _ _ _ _ _ _ _ hSw.2.1)
          try simp only [Act.put, gA, gS, gZ, sA, sZ, sS]
          refine wpAnyH_ready (rs := [11]) (by kernel_rfl) (by simp) ?_
          refine AllReadyH.cons rfl (fun K' hK => ?_) AllReadyH.nil
          rw [if_pos (by rfl)]
          simp only [gA, gS, gZ]
          go_wp2_with fail
          refine (HS.out _ hW).mono ?_
          rintro r ww ⟨rfl, v27_0, v27_1, rfl⟩
          try go_wp2_with fail
          refine hK.out _ _ (⟨(Below.al (Below.al hW _) _), (ext_al (ext_al hB)), C0, hC0, (ext_al (ext_al hR)), (ext_al (ext_al hA0))⟩) (fun hHeld => ?_)
          clear hK K'
          try simp only [Act.put, gA, gS, gZ, sA, sZ, sS]
          clear hW hB hC0 hR hA0
          obtain ⟨hW, hB, C0, hC0, hR, hA0⟩ := id hHeld
          refine tk 12 (.bool true) rfl (.inl ⟨by rfl, ?_⟩) ?_
          · intro w9 hSw
            try dsimp only at hSw
            go_simp
            all_goals try decide
            all_goals try assumption
            all_goals try omega
          try simp only [Act.put, gA, gS, gZ, sA, sZ, sS]
          refine tk 13 (.pointer (some ⟨w.heap.size, 10, none⟩)) rfl (.inl ⟨by rfl, ?_⟩) ?_
          · intro w9 hSw
            try dsimp only at hSw
            go_simp
            all_goals try decide
            all_goals try assumption
            all_goals try omega
          try simp only [Act.put, gA, gS, gZ, sA, sZ, sS]
          refine tk 14 (.int .i64 b) rfl (.inl ⟨by rfl, ?_⟩) ?_
          · intro w9 hSw
            try dsimp only at hSw
            exact ex_load 3 (.tmp 29) rfl _ _ rfl (ld_3 _ _ _ _ (by rw [cell_of_row _ _ 10 _ _ _ hSw.2.1]; rfl))
          try simp only [Act.put, gA, gS, gZ, sA, sZ, sS]
          refine tk 15 (.bool true) rfl (.inl ⟨by rfl, ?_⟩) ?_
          · intro w9 hSw
            try dsimp only at hSw
            go_simp
            all_goals try decide
            all_goals try omega
          try simp only [Act.put, gA, gS, gZ, sA, sZ, sS]
          refine tk 16 (.bool true) rfl (.inl ⟨by rfl, ?_⟩) ?_
          · intro w9 hSw
            try dsimp only at hSw
            go_simp
            all_goals try decide
            all_goals try assumption
            all_goals try omega
          try simp only [Act.put, gA, gS, gZ, sA, sZ, sS]
          refine tk 17 (.bool true) rfl (.inl ⟨by rfl, ?_⟩) ?_
          · intro w9 hSw
            try dsimp only at hSw
            go_simp
            all_goals try decide
            all_goals try assumption
            all_goals try omega
          try simp only [Act.put, gA, gS, gZ, sA, sZ, sS]
          refine tk 18 (.pointer (some ⟨w.heap.size, 10, none⟩)) rfl (.inl ⟨by rfl, ?_⟩) ?_
          · intro w9 hSw
            try dsimp only at hSw
            go_simp
            all_goals try decide
            all_goals try assumption
            all_goals try omega
          try simp only [Act.put, gA, gS, gZ, sA, sZ, sS]
          refine tk 19 (.int .i64 b) rfl (.inl ⟨by rfl, ?_⟩) ?_
          · intro w9 hSw
            try dsimp only at hSw
            exact ex_load 3 (.tmp 34) rfl _ _ rfl (ld_3 _ _ _ _ (by rw [cell_of_row _ _ 10 _ _ _ hSw.2.1]; rfl))
          try simp only [Act.put, gA, gS, gZ, sA, sZ, sS]
          refine tk 20 (.bool false) rfl (.inl ⟨by rfl, ?_⟩) ?_
          · intro w9 hSw
            try dsimp only at hSw
            go_simp
            all_goals try decide
            all_goals try omega
          try simp only [Act.put, gA, gS, gZ, sA, sZ, sS]
          refine tk 21 (.bool false) rfl (.inl ⟨by rfl, ?_⟩) ?_
          · intro w9 hSw
            try dsimp only at hSw
            go_simp
            all_goals try decide
            all_goals try assumption
            all_goals try omega
          try simp only [Act.put, gA, gS, gZ, sA, sZ, sS]
          refine wpAnyH_ready (rs := [22]) (by kernel_rfl) (by simp) ?_
          refine AllReadyH.cons rfl (fun K' hK => ?_) AllReadyH.nil
          rw [if_pos (by rfl)]
          simp only [gA, gS, gZ]
          refine wp_store_by 31 (.tmp 2) (.tmp 16) rfl _ _ rfl rfl (store8 _ _ C0 x0 (i % 256) (i / 256) s y4 0 0 0 _ hR hC0) ?_
          refine hK.out _ _ (⟨below_setRow hW (by omega) _, (setRow_other _ _ _ _ (by omega)).trans hB, _, rfl, setRow_heap _ _ _ _ _ _ hR, (setRow_other _ _ _ _ (by omega)).trans hA0⟩) (fun hHeld => ?_)
          clear hK K'
          try simp only [Act.put, gA, gS, gZ, sA, sZ, sS]
          refine tk 23 (.bool false) rfl (.inl ⟨by rfl, ?_⟩) ?_
          · intro w9 hSw
            try dsimp only at hSw
            go_simp
            all_goals try decide
            all_goals try assumption
            all_goals try omega
          try simp only [Act.put, gA, gS, gZ, sA, sZ, sS]
          refine wpAnyH_done (by kernel_rfl) ?_ _
          have hc := fun j => cell_of_row _ (w.heap.size + 1) j _ _ _ (setRow_heap _ _ _ (ar8 x0 (i % 256) (i / 256) s y4 0 0 0) _ _ hR)
          have hb := below_setRow hW (Nat.le_succ w.heap.size) (ar8 x0 (i % 256) (i / 256) s y4 0 0 0)
          clear hHeld hW hB hC0
          go_wp2_with fail
          refine bodyPost_ret (v := .tuple #[arr8 x0 (i % 256) (i / 256) s y4 0 0 0, .bool false]) ?_ rfl ⟨⟨x0, (i % 256), (i / 256), s, y4, 0, 0, 0⟩, false, rfl, ?_, ?_⟩
          · simp [results, Try.results63, go_sem, hc]
          · exact hO.out
          · exact hb
      · obtain rfl : false = V := by rw [← e2]; simp [h0]
        clear e2
        go_wp2_with fail
        refine wp_region_held_drew (S := fun x => Below w.heap.size w x ∧ x.heap[w.heap.size]? = some (.cells (cmC k i s z n q a len cap t l c b e u m o) 36 (0, 0)) ∧ ∃ C : Array Value, C.size = 8 ∧ x.heap[w.heap.size + 1]? = some (.cells C 31 (0, 0)) ∧ x.heap[P]? = some (.cells (ar8 x0 (i % 256) (i / 256) s y4 0 0 0) 31 (0, 0))) (by kernel_rfl) (⟨Below.drew hcW, (heap_drew _ _).trans hcB, ar8 0 0 0 0 0 0 0 0, rfl, (heap_drew _ _).trans hcR, (heap_drew _ _).trans hcP⟩) (fun hHeld => ?_)
        obtain ⟨hW, hB, C0, hC0, hR, hA0⟩ := id hHeld
        refine tk 0 (arr8 x0 (i % 256) (i / 256) s y4 0 0 0) rfl (.inl ⟨by rfl, ?_⟩) ?_
        · intro w9 hSw
          try dsimp only at hSw
          obtain ⟨_, _, _, _, _, hA⟩ := hSw
          exact ex_load 31 (.tmp 4) rfl _ _ rfl (load8 _ _ _ _ _ _ _ _ _ _ _ hA)
        try simp only [Act.put, gA, gS, gZ, sA, sZ, sS]
        refine tk 1 (.pointer (some ⟨w.heap.size, 0, none⟩)) rfl (.inl ⟨by rfl, ?_⟩) ?_
        · intro w9 hSw
          try dsimp only at hSw
          go_simp
          all_goals try decide
          all_goals try assumption
          all_goals try omega
        try simp only [Act.put, gA, gS, gZ, sA, sZ, sS]
        refine tk 2 (.int .u8 k) rfl (.inl ⟨by rfl, ?_⟩) ?_
        · intro w9 hSw
          try dsimp only at hSw
          exact ex_load 5 (.tmp 17) rfl _ _ rfl (ld_5 _ _ _ _ (by rw [cell_of_row _ _ 0 _ _ _ hSw.2.1]; rfl))
        try simp only [Act.put, gA, gS, gZ, sA, sZ, sS]
        refine tk 3 (.pointer (some ⟨w.heap.size, 1, none⟩)) rfl (.inl ⟨by rfl, ?_⟩) ?_
        · intro w9 hSw
          try dsimp only at hSw
          go_simp
          all_goals try decide
          all_goals try assumption
          all_goals try omega
        try simp only [Act.put, gA, gS, gZ, sA, sZ, sS]
        refine tk 4 (.agg #[.int .u16 i, .int .u8 s]) rfl (.inl ⟨by rfl, ?_⟩) ?_
        · intro w9 hSw
          try dsimp only at hSw
          exact ex_load 24 (.tmp 19) rfl _ _ rfl (ldPl _ _ _ _ (by rw [cell_of_row _ _ 1 _ _ _ hSw.2.1]; rfl) (by rw [cell_of_row _ _ 2 _ _ _ hSw.2.1]; rfl))
        try simp only [Act.put, gA, gS, gZ, sA, sZ, sS]
        refine tk 5 (.pointer (some ⟨w.heap.size, 9, none⟩)) rfl (.inl ⟨by rfl, ?_⟩) ?_
        · intro w9 hSw
          try dsimp only at hSw
          go_simp
          all_goals try decide
          all_goals try assumption
          all_goals try omega
        try simp only [Act.put, gA, gS, gZ, sA, sZ, sS]
        refine tk 6 (.bool c) rfl (.inl ⟨by rfl, ?_⟩) ?_
        · intro w9 hSw
          try dsimp only at hSw
          exact ex_load 4 (.tmp 21) rfl _ _ rfl (ld_4 _ _ _ _ (by rw [cell_of_row _ _ 9 _ _ _ hSw.2.1]; rfl))
        try simp only [Act.put, gA, gS, gZ, sA, sZ, sS]
        refine tk 7 (.pointer (some ⟨w.heap.size, 10, none⟩)) rfl (.inl ⟨by rfl, ?_⟩) ?_
        · intro w9 hSw
          try dsimp only at hSw
          go_simp
          all_goals try decide
          all_goals try assumption
          all_goals try omega
        try simp only [Act.put, gA, gS, gZ, sA, sZ, sS]
        refine tk 8 (.int .i64 b) rfl (.inl ⟨by rfl, ?_⟩) ?_
        · intro w9 hSw
          try dsimp only at hSw
          exact ex_load 3 (.tmp 23) rfl _ _ rfl (ld_3 _ _ _ _ (by rw [cell_of_row _ _ 10 _ _ _ hSw.2.1]; rfl))
        try simp only [Act.put, gA, gS, gZ, sA, sZ, sS]
        refine tk 9 (cmV k i s false 0 false none 0 0 false false c b 0 0 0 0) rfl (.inl ⟨by rfl, ?_⟩) ?_
        · intro w9 hSw
          try dsimp only at hSw
          go_simp
          all_goals try decide
          all_goals try assumption
          all_goals try omega
        try simp only [Act.put, gA, gS, gZ, sA, sZ, sS]
        refine tk 10 (cmV k i s z n q a len cap t l c b e u m o) rfl (.inl ⟨by rfl, ?_⟩) ?_
        · intro w9 hSw
          try dsimp only at hSw
          exact ex_load 36 (.tmp 1) rfl _ _ rfl (loadRC _ _ _ _ _ _ _ _ _ _ _ _ _ _ _ _ _ _ _ _ hSw.2.1)
        try simp only [Act.put, gA, gS, gZ, sA, sZ, sS]
        refine wpAnyH_ready (rs := [11]) (by kernel_rfl) (by simp) ?_
        refine AllReadyH.cons rfl (fun K' hK => ?_) AllReadyH.nil
        rw [if_pos (by rfl)]
        simp only [gA, gS, gZ]
        go_wp2_with fail
        refine (HS.out _ hW).mono ?_
        rintro r ww ⟨rfl, v28_0, v28_1, rfl⟩
        try go_wp2_with fail
        refine hK.out _ _ (⟨(Below.al (Below.al hW _) _), (ext_al (ext_al hB)), C0, hC0, (ext_al (ext_al hR)), (ext_al (ext_al hA0))⟩) (fun hHeld => ?_)
        clear hK K'
        try simp only [Act.put, gA, gS, gZ, sA, sZ, sS]
        clear hW hB hC0 hR hA0
        obtain ⟨hW, hB, C0, hC0, hR, hA0⟩ := id hHeld
        refine tk 12 (.bool true) rfl (.inl ⟨by rfl, ?_⟩) ?_
        · intro w9 hSw
          try dsimp only at hSw
          go_simp
          all_goals try decide
          all_goals try assumption
          all_goals try omega
        try simp only [Act.put, gA, gS, gZ, sA, sZ, sS]
        refine tk 13 (.pointer (some ⟨w.heap.size, 10, none⟩)) rfl (.inl ⟨by rfl, ?_⟩) ?_
        · intro w9 hSw
          try dsimp only at hSw
          go_simp
          all_goals try decide
          all_goals try assumption
          all_goals try omega
        try simp only [Act.put, gA, gS, gZ, sA, sZ, sS]
        refine tk 14 (.int .i64 b) rfl (.inl ⟨by rfl, ?_⟩) ?_
        · intro w9 hSw
          try dsimp only at hSw
          exact ex_load 3 (.tmp 29) rfl _ _ rfl (ld_3 _ _ _ _ (by rw [cell_of_row _ _ 10 _ _ _ hSw.2.1]; rfl))
        try simp only [Act.put, gA, gS, gZ, sA, sZ, sS]
        refine tk 15 (.bool false) rfl (.inl ⟨by rfl, ?_⟩) ?_
        · intro w9 hSw
          try dsimp only at hSw
          go_simp
          all_goals try decide
          all_goals try omega
        try simp only [Act.put, gA, gS, gZ, sA, sZ, sS]
        refine tk 16 (.bool false) rfl (.inl ⟨by rfl, ?_⟩) ?_
        · intro w9 hSw
          try dsimp only at hSw
          go_simp
          all_goals try decide
          all_goals try assumption
          all_goals try omega
        try simp only [Act.put, gA, gS, gZ, sA, sZ, sS]
        refine tk 17 (.bool false) rfl (.inl ⟨by rfl, ?_⟩) ?_
        · intro w9 hSw
          try dsimp only at hSw
          go_simp
          all_goals try decide
          all_goals try assumption
          all_goals try omega
        try simp only [Act.put, gA, gS, gZ, sA, sZ, sS]
        refine tk 18 undef rfl (.inr ⟨by rfl, rfl⟩) ?_
        try simp only [Act.put, gA, gS, gZ, sA, sZ, sS]
        refine tk 19 undef rfl (.inr ⟨by rfl, rfl⟩) ?_
        try simp only [Act.put, gA, gS, gZ, sA, sZ, sS]
        refine tk 20 undef rfl (.inr ⟨by rfl, rfl⟩) ?_
        try simp only [Act.put, gA, gS, gZ, sA, sZ, sS]
        refine tk 21 (.bool false) rfl (.inl ⟨by rfl, ?_⟩) ?_
        · intro w9 hSw
          try dsimp only at hSw
          go_simp
          all_goals try decide
          all_goals try assumption
          all_goals try omega
        try simp only [Act.put, gA, gS, gZ, sA, sZ, sS]
        refine wpAnyH_ready (rs := [22]) (by kernel_rfl) (by simp) ?_
        refine AllReadyH.cons rfl (fun K' hK => ?_) AllReadyH.nil
        rw [if_pos (by rfl)]
        simp only [gA, gS, gZ]
        refine wp_store_by 31 (.tmp 2) (.tmp 16) rfl _ _ rfl rfl (store8 _ _ C0 x0 (i % 256) (i / 256) s y4 0 0 0 _ hR hC0) ?_
        refine hK.out _ _ (⟨below_setRow hW (by omega) _, (setRow_other _ _ _ _ (by omega)).trans hB, _, rfl, setRow_heap _ _ _ _ _ _ hR, (setRow_other _ _ _ _ (by omega)).trans hA0⟩) (fun hHeld => ?_)
        clear hK K'
        try simp only [Act.put, gA, gS, gZ, sA, sZ, sS]
        refine tk 23 (.bool false) rfl (.inl ⟨by rfl, ?_⟩) ?_
        · intro w9 hSw
          try dsimp only at hSw
          go_simp
          all_goals try decide
          all_goals try assumption
          all_goals try omega
        try simp only [Act.put, gA, gS, gZ, sA, sZ, sS]
        refine wpAnyH_done (by kernel_rfl) ?_ _
        have hc := fun j => cell_of_row _ (w.heap.size + 1) j _ _ _ (setRow_heap _ _ _ (ar8 x0 (i % 256) (i / 256) s y4 0 0 0) _ _ hR)
        have hb := below_setRow hW (Nat.le_succ w.heap.size) (ar8 x0 (i % 256) (i / 256) s y4 0 0 0)
        clear hHeld hW hB hC0
        go_wp2_with fail
        refine bodyPost_ret (v := .tuple #[arr8 x0 (i % 256) (i / 256) s y4 0 0 0, .bool false]) ?_ rfl ⟨⟨x0, (i % 256), (i / 256), s, y4, 0, 0, 0⟩, false, rfl, ?_, ?_⟩
        · simp [results, Try.results63, go_sem, hc]
        · exact hO.out
        · exact hb
#print axioms rblocked_any
end Go.Proofs.Ytlnlejdjekbipaa
namespace Go.Proofs.Ytlnlejdjekbipaa
open Go.RowKit

set_option linter.unusedSimpArgs false in
set_option maxHeartbeats 4000000 in
set_option maxRecDepth 100000 in
theorem rsummed_any (C : Cm) (ok : C.Ok) (a : Option Addr) (cap : Nat) (w : World) (hr : Row w a C.d.length C.d) :
    Calls Try.prog 62 #[C.v a C.d.length cap] w (QPost w (wEnd 193 C)) := by
  have HS : Hid (∀ W, Below w.heap.size w W → Calls Try.prog 18 #[cmV C.k 0 0 false 0 false none 0 0 false false false 0 0 C.u C.m 0, cmV C.k C.i C.s C.z C.n C.q a C.d.length cap C.t C.l C.c C.b C.e C.u C.m C.o] W fun r w' => r = .returned (.bool (C.only 3072)) ∧ ∃ o1 o2, w' = (W.alloc o1).alloc o2) := fun W hb => by
    have := same_any ⟨C.k, 0, 0, false, 0, false, [], false, false, false, 0, 0, C.u, C.m, 0⟩ C none 0 0 a C.d.length cap W (row_nil W) (hr.next hb)
    rw [bare_3072] at this
    exact this
  obtain ⟨M4, hM4⟩ : ∃ y, IntKind.i64.wrap (4 * C.m) = y := ⟨_, rfl⟩
  obtain ⟨M5, hM5⟩ : ∃ y, IntKind.i64.wrap (193 + M4) = y := ⟨_, rfl⟩
  obtain ⟨x0, hx0⟩ : ∃ y, M5 % 256 = y := ⟨_, rfl⟩
  have KL : Hid (∀ W, Calls Try.prog 33 #[.int .i64 M5] W fun e w' => e = .returned (arr8 x0 0 0 0 0 0 0 0) ∧ ∃ o1 o2, w' = (W.alloc o1).alloc o2) := fun W => hx0 ▸ plain_any M5 W
  obtain ⟨y1, hy1⟩ : ∃ y, C.u % 256 = y := ⟨_, rfl⟩
  obtain ⟨y2, hy2⟩ : ∃ y, C.u / 256 = y := ⟨_, rfl⟩
  have KQ : Hid (∀ W, Calls Try.prog 74 #[arr8 x0 0 0 0 0 0 0 0, .int .i64 1, .int .i64 2, .int .u32 C.u] W fun e w' => e = .returned (.agg (ar8 x0 y1 y2 0 0 0 0 0)) ∧ ∃ o1 o2, w' = (W.alloc o1).alloc o2) := fun W => by rw [← hy1, ← hy2]; exact put12 _ _ _ _ _ _ _ _ _ ok.u W
  obtain ⟨V, hV⟩ : ∃ V, (C.only 3072 && decide (0 ≤ C.m) && decide (C.m ≤ 7)) = V := ⟨_, rfl⟩
  have hO : Hid (wEnd 193 C = if V then some ⟨x0, y1, y2, 0, 0, 0, 0, 0⟩ else none) := by
    unfold wEnd
    rw [← Bool.and_assoc, hV]
    cases V
    · rfl
    · have h1 : 0 ≤ C.m ∧ C.m ≤ 7 := by simp only [Bool.and_eq_true, decide_eq_true_iff] at hV; exact ⟨hV.1.2, hV.2⟩
      have e3 : x0 = bits .or .u8 193 (C.m * 4) := by rw [← hx0, ← hM5, ← hM4]; exact e0_doc C.m h1.1 h1.2
      rw [e3, ← hy1, ← hy2]
      rfl
  have hM4' : Hid _ := hM4
  have hM5' : Hid _ := hM5
  have hu := ok.u
  have cu : Hid (IntKind.u32.wrap C.u = C.u) := by show _ = _; simp [IntKind.wrap, IntKind.bits, IntKind.signed]; omega
  have HV : Hid _ := hV
  clear hx0 hV hy1 hy2 hM4 hM5
  generalize C.only 3072 = E at HS HV
  generalize wEnd 193 C = O at hO ⊢
  clear hr ok
  generalize hlen : C.d.length = len at HS ⊢
  obtain ⟨k, i, s, z, n, q, d, t, l, c, b, e, u, m, o⟩ := C
  clear hlen
  dsimp only at HS hO HV KL KQ hM4' hM5' cu hu ⊢
  go_enter Try.func62, Try.ntmps62
  go_upto_region 1 with fail
  go_cut [4] from 5 (fun sv wx => ∃ P, sv = .pointer (some ⟨P, 0, none⟩) ∧ Hid (w.heap.size + 1 < P) ∧ Hid (Below w.heap.size w wx) ∧ Hid (wx.heap[w.heap.size]? = some (.cells (cmC k i s z n q a len cap t l c b e u m o) 36 (0, 0))) ∧ Hid (wx.heap[w.heap.size + 1]? = some (.cells (ar8 0 0 0 0 0 0 0 0) 31 (0, 0))) ∧ Hid (wx.heap[P]? = some (.cells (ar8 x0 y1 y2 0 0 0 0 0) 31 (0, 0))))
  case first =>
    refine wp_region_held_drew (S := fun x => Below w.heap.size w x ∧ x.heap[w.heap.size]? = some (.cells (cmC k i s z n q a len cap t l c b e u m o) 36 (0, 0)) ∧ x.heap[w.heap.size + 1]? = some (.cells (ar8 0 0 0 0 0 0 0 0) 31 (0, 0))) (by kernel_rfl) (⟨Below.drew (Below.al (Below.al (Below.refl _ _) _) _), (heap_drew _ _).trans (ext_al (heap_new _ _)), (heap_drew _ _).trans (heap_at _ _ _ (by simp))⟩) (fun hHeld => ?_)
    obtain ⟨hW, hB, hR⟩ := id hHeld
    refine tk 0 (.pointer (some ⟨w.heap.size, 13, none⟩)) rfl (.inl ⟨by rfl, ?_⟩) ?_
    · intro w9 hSw
      try dsimp only at hSw
      go_simp
      all_goals try decide
      all_goals try assumption
      all_goals try omega
    try simp only [Act.put, gA, gS, gZ, sA, sZ, sS]
    refine tk 1 (.int .i64 m) rfl (.inl ⟨by rfl, ?_⟩) ?_
    · intro w9 hSw
      try dsimp only at hSw
      exact ex_load 3 (.tmp 5) rfl _ _ rfl (ld_3 _ _ _ _ (by rw [cell_of_row _ _ 13 _ _ _ hSw.2.1]; rfl))
    try simp only [Act.put, gA, gS, gZ, sA, sZ, sS]
    refine tk 2 (.int .i64 M4) rfl (.inl ⟨by rfl, ?_⟩) ?_
    · intro w9 hSw
      try dsimp only at hSw
      go_simp
      all_goals first | exact hM4'.out | (rw [hM4'.out]; done) | (simp only [hM4'.out]; done) | skip
    try simp only [Act.put, gA, gS, gZ, sA, sZ, sS]
    refine tk 3 (.int .i64 M5) rfl (.inl ⟨by rfl, ?_⟩) ?_
    · intro w9 hSw
      try dsimp only at hSw
      go_simp
      all_goals first | exact hM5'.out | (rw [hM5'.out]; done) | (simp only [hM5'.out]; done) | skip
    try simp only [Act.put, gA, gS, gZ, sA, sZ, sS]
    refine tk 5 (.pointer (some ⟨w.heap.size, 12, none⟩)) rfl (.inl ⟨by rfl, ?_⟩) ?_
    · intro w9 hSw
      try dsimp only at hSw
      go_simp
      all_goals try decide
      all_goals try assumption
      all_goals try omega
    try simp only [Act.put, gA, gS, gZ, sA, sZ, sS]
    refine tk 6 (.int .u16 u) rfl (.inl ⟨by rfl, ?_⟩) ?_
    · intro w9 hSw
      try dsimp only at hSw
      exact ex_load 22 (.tmp 10) rfl _ _ rfl (ld_22 _ _ _ _ (by rw [cell_of_row _ _ 12 _ _ _ hSw.2.1]; rfl))
    try simp only [Act.put, gA, gS, gZ, sA, sZ, sS]
    refine tk 7 (.int .u32 u) rfl (.inl ⟨by rfl, ?_⟩) ?_
    · intro w9 hSw
      try dsimp only at hSw
      go_simp
      all_goals first | exact cu.out | (rw [cu.out]; done) | (simp only [cu.out]; done) | skip
    try simp only [Act.put, gA, gS, gZ, sA, sZ, sS]
    refine wpAnyH_ready (rs := [4, 9]) (by kernel_rfl) (by simp) ?_
    refine AllReadyH.cons rfl (fun K' hK => ?_) (AllReadyH.cons rfl (fun K' hK => ?_) AllReadyH.nil)
    · rw [if_pos (by rfl)]
      simp only [gA, gS, gZ]
      go_wp2_with fail
      refine (KL.out _).mono ?_
      rintro r ww ⟨rfl, v29_0, v29_1, rfl⟩
      try go_wp2_with fail
      refine hK.out _ _ (⟨(Below.al (Below.al hW _) _), (ext_al (ext_al hB)), (ext_al (ext_al hR))⟩) (fun hHeld => ?_)
      clear hK K'
      try simp only [Act.put, gA, gS, gZ, sA, sZ, sS]
      clear hW hB hR
      obtain ⟨hW, hB, hR⟩ := id hHeld
      refine wpAnyH_ready (rs := [8, 9]) (by kernel_rfl) (by simp) ?_
      refine AllReadyH.cons rfl (fun K' hK => ?_) (AllReadyH.cons rfl (fun K' hK => ?_) AllReadyH.nil)
      · rw [if_pos (by rfl)]
        simp only [gA, gS, gZ]
        go_wp2_with fail
        refine (KQ.out _).mono ?_
        rintro r ww ⟨rfl, v30_0, v30_1, rfl⟩
        try go_wp2_with fail
        refine hK.out _ _ (⟨(Below.al (Below.al hW _) _), (ext_al (ext_al hB)), (ext_al (ext_al hR))⟩) (fun hHeld => ?_)
        clear hK K'
        try simp only [Act.put, gA, gS, gZ, sA, sZ, sS]
        clear hW hB hR
        obtain ⟨hW, hB, hR⟩ := id hHeld
        refine wpAnyH_ready (rs := [9]) (by kernel_rfl) (by simp) ?_
        refine AllReadyH.cons rfl (fun K' hK => ?_) AllReadyH.nil
        rw [if_pos (by rfl)]
        simp only [gA, gS, gZ]
        go_wp2_with fail
        skip
        refine hK.out _ _ (⟨(Below.al hW _), (ext_al hB), (ext_al hR)⟩) (fun hHeld => ?_)
        clear hK K'
        try simp only [Act.put, gA, gS, gZ, sA, sZ, sS]
        have hP := heap_last hW (.cells (ar8 0 0 0 0 0 0 0 0) 31) (w.heap.size + 1 + 1 + 1 + 1 + 1 + 1) (by simp)
        clear hW hB hR
        obtain ⟨hW, hB, hR⟩ := id hHeld
        refine wpAnyH_ready (rs := [10]) (by kernel_rfl) (by simp) ?_
        refine AllReadyH.cons rfl (fun K' hK => ?_) AllReadyH.nil
        rw [if_pos (by rfl)]
        simp only [gA, gS, gZ]
        refine wp_store_by 31 (.tmp 4) (.tmp 13) rfl _ _ rfl rfl (store8 _ _ _ x0 y1 y2 0 0 0 0 0 _ hP rfl) ?_
        refine hK.out _ _ (⟨below_setRow hW (by omega) _, (setRow_other _ _ _ _ (by omega)).trans hB, (setRow_other _ _ _ _ (by omega)).trans hR⟩) (fun hHeld => ?_)
        clear hK K'
        try simp only [Act.put, gA, gS, gZ, sA, sZ, sS]
        have hP2 := setRow_heap _ _ _ (ar8 x0 y1 y2 0 0 0 0 0) _ _ hP
        clear hW hB hR hP
        obtain ⟨hW, hB, hR⟩ := id hHeld
        refine wpAnyH_done (by kernel_rfl) ?_ _
        go_wp2_with fail
        go_meet
        exact ⟨_, rfl, (by show _ < _; omega), hW, hB, hR, hP2⟩
      · rw [if_pos (by rfl)]
        simp only [gA, gS, gZ]
        go_wp2_with fail
        skip
        refine hK.out _ _ (⟨(Below.al hW _), (ext_al hB), (ext_al hR)⟩) (fun hHeld => ?_)
        clear hK K'
        try simp only [Act.put, gA, gS, gZ, sA, sZ, sS]
        have hP := heap_last hW (.cells (ar8 0 0 0 0 0 0 0 0) 31) (w.heap.size + 1 + 1 + 1 + 1) (by simp)
        clear hW hB hR
        obtain ⟨hW, hB, hR⟩ := id hHeld
        refine wpAnyH_ready (rs := [8]) (by kernel_rfl) (by simp) ?_
        refine AllReadyH.cons rfl (fun K' hK => ?_) AllReadyH.nil
        rw [if_pos (by rfl)]
        simp only [gA, gS, gZ]
        go_wp2_with fail
        refine (KQ.out _).mono ?_
        rintro r ww ⟨rfl, v31_0, v31_1, rfl⟩
        try go_wp2_with fail
        refine hK.out _ _ (⟨(Below.al (Below.al hW _) _), (ext_al (ext_al hB)), (ext_al (ext_al hR))⟩) (fun hHeld => ?_)
        clear hK K'
        try simp only [Act.put, gA, gS, gZ, sA, sZ, sS]
        clear hW hB hR
        obtain ⟨hW, hB, hR⟩ := id hHeld
        replace hP := (ext_al (o := v31_1) (ext_al (o := v31_0) hP))
        refine wpAnyH_ready (rs := [10]) (by kernel_rfl) (by simp) ?_
        refine AllReadyH.cons rfl (fun K' hK => ?_) AllReadyH.nil
        rw [if_pos (by rfl)]
        simp only [gA, gS, gZ]
        refine wp_store_by 31 (.tmp 4) (.tmp 13) rfl _ _ rfl rfl (store8 _ _ _ x0 y1 y2 0 0 0 0 0 _ hP rfl) ?_
        refine hK.out _ _ (⟨below_setRow hW (by omega) _, (setRow_other _ _ _ _ (by omega)).trans hB, (setRow_other _ _ _ _ (by omega)).trans hR⟩) (fun hHeld => ?_)
        clear hK K'
        try simp only [Act.put, gA, gS, gZ, sA, sZ, sS]
        have hP2 := setRow_heap _ _ _ (ar8 x0 y1 y2 0 0 0 0 0) _ _ hP
        clear hW hB hR hP
        obtain ⟨hW, hB, hR⟩ := id hHeld
        refine wpAnyH_done (by kernel_rfl) ?_ _
        go_wp2_with fail
        go_meet
        exact ⟨_, rfl, (by show _ < _; omega), hW, hB, hR, hP2⟩
    · rw [if_pos (by rfl)]
      simp only [gA, gS, gZ]
      go_wp2_with fail
      skip
      refine hK.out _ _ (⟨(Below.al hW _), (ext_al hB), (ext_al hR)⟩) (fun hHeld => ?_)
      clear hK K'
      try simp only [Act.put, gA, gS, gZ, sA, sZ, sS]
      have hP := heap_last hW (.cells (ar8 0 0 0 0 0 0 0 0) 31) (w.heap.size + 1 + 1) (by simp)
      clear hW hB hR
      obtain ⟨hW, hB, hR⟩ := id hHeld
      refine wpAnyH_ready (rs := [4]) (by kernel_rfl) (by simp) ?_
      refine AllReadyH.cons rfl (fun K' hK => ?_) AllReadyH.nil
      rw [if_pos (by rfl)]
      simp only [gA, gS, gZ]
      go_wp2_with fail
      refine (KL.out _).mono ?_
      rintro r ww ⟨rfl, v32_0, v32_1, rfl⟩
      try go_wp2_with fail
      refine hK.out _ _ (⟨(Below.al (Below.al hW _) _), (ext_al (ext_al hB)), (ext_al (ext_al hR))⟩) (fun hHeld => ?_)
      clear hK K'
      try simp only [Act.put, gA, gS, gZ, sA, sZ, sS]
      clear hW hB hR
      obtain ⟨hW, hB, hR⟩ := id hHeld
      replace hP := (ext_al (o := v32_1) (ext_al (o := v32_0) hP))
      refine wpAnyH_ready (rs := [8]) (by kernel_rfl) (by simp) ?_
      refine AllReadyH.cons rfl (fun K' hK => ?_) AllReadyH.nil
      rw [if_pos (by rfl)]
      simp only [gA, gS, gZ]
      go_wp2_with fail
      refine (KQ.out _).mono ?_
      rintro r ww ⟨rfl, v33_0, v33_1, rfl⟩
      try go_wp2_with fail
      refine hK.out _ _ (⟨(Below.al (Below.al hW _) _), (ext_al (ext_al hB)), (ext_al (ext_al hR))⟩) (fun hHeld => ?_)
      clear hK K'
      try simp only [Act.put, gA, gS, gZ, sA, sZ, sS]
      clear hW hB hR
      obtain ⟨hW, hB, hR⟩ := id hHeld
      replace hP := (ext_al (o := v33_1) (ext_al (o := v33_0) hP))
      refine wpAnyH_ready (rs := [10]) (by kernel_rfl) (by simp) ?_
      refine AllReadyH.cons rfl (fun K' hK => ?_) AllReadyH.nil
      rw [if_pos (by rfl)]
      simp only [gA, gS, gZ]
      refine wp_store_by 31 (.tmp 4) (.tmp 13) rfl _ _ rfl rfl (store8 _ _ _ x0 y1 y2 0 0 0 0 0 _ hP rfl) ?_
      refine hK.out _ _ (⟨below_setRow hW (by omega) _, (setRow_other _ _ _ _ (by omega)).trans hB, (setRow_other _ _ _ _ (by omega)).trans hR⟩) (fun hHeld => ?_)
      clear hK K'
      try simp only [Act.put, gA, gS, gZ, sA, sZ, sS]
      have hP2 := setRow_heap _ _ _ (ar8 x0 y1 y2 0 0 0 0 0) _ _ hP
      clear hW hB hR hP
      obtain ⟨hW, hB, hR⟩ := id hHeld
      refine wpAnyH_done (by kernel_rfl) ?_ _
      go_wp2_with fail
      go_meet
      exact ⟨_, rfl, (by show _ < _; omega), hW, hB, hR, hP2⟩
  case rest =>
    obtain ⟨P, rfl, hcS, hcW, hcB, hcR, hcP⟩ := hcut
    replace hcS := hcS.out
    replace hcW := hcW.out
    replace hcB := hcB.out
    replace hcR := hcR.out
    replace hcP := hcP.out
    have e2 := HV.out
    clear HV
    cases E
    · obtain rfl : false = V := by rw [← e2]; simp
      clear e2
      go_wp2_with fail
      refine wp_region_held_drew (S := fun x => Below w.heap.size w x ∧ x.heap[w.heap.size]? = some (.cells (cmC k i s z n q a len cap t l c b e u m o) 36 (0, 0)) ∧ ∃ C : Array Value, C.size = 8 ∧ x.heap[w.heap.size + 1]? = some (.cells C 31 (0, 0)) ∧ x.heap[P]? = some (.cells (ar8 x0 y1 y2 0 0 0 0 0) 31 (0, 0))) (by kernel_rfl) (⟨Below.drew hcW, (heap_drew _ _).trans hcB, ar8 0 0 0 0 0 0 0 0, rfl, (heap_drew _ _).trans hcR, (heap_drew _ _).trans hcP⟩) (fun hHeld => ?_)
      obtain ⟨hW, hB, C0, hC0, hR, hA0⟩ := id hHeld
      refine tk 0 (arr8 x0 y1 y2 0 0 0 0 0) rfl (.inl ⟨by rfl, ?_⟩) ?_
      · intro w9 hSw
        try dsimp only at hSw
        obtain ⟨_, _, _, _, _, hA⟩ := hSw
        exact ex_load 31 (.tmp 4) rfl _ _ rfl (load8 _ _ _ _ _ _ _ _ _ _ _ hA)
      try simp only [Act.put, gA, gS, gZ, sA, sZ, sS]
      refine tk 1 (.pointer (some ⟨w.heap.size, 0, none⟩)) rfl (.inl ⟨by rfl, ?_⟩) ?_
      · intro w9 hSw
        try dsimp only at hSw
        go_simp
        all_goals try decide
        all_goals try assumption
        all_goals try omega
      try simp only [Act.put, gA, gS, gZ, sA, sZ, sS]
      refine tk 2 (.int .u8 k) rfl (.inl ⟨by rfl, ?_⟩) ?_
      · intro w9 hSw
        try dsimp only at hSw
        exact ex_load 5 (.tmp 15) rfl _ _ rfl (ld_5 _ _ _ _ (by rw [cell_of_row _ _ 0 _ _ _ hSw.2.1]; rfl))
      try simp only [Act.put, gA, gS, gZ, sA, sZ, sS]
      refine tk 3 (.pointer (some ⟨w.heap.size, 13, none⟩)) rfl (.inl ⟨by rfl, ?_⟩) ?_
      · intro w9 hSw
        try dsimp only at hSw
        go_simp
        all_goals try decide
        all_goals try assumption
        all_goals try omega
      try simp only [Act.put, gA, gS, gZ, sA, sZ, sS]
      refine tk 4 (.int .i64 m) rfl (.inl ⟨by rfl, ?_⟩) ?_
      · intro w9 hSw
        try dsimp only at hSw
        exact ex_load 3 (.tmp 17) rfl _ _ rfl (ld_3 _ _ _ _ (by rw [cell_of_row _ _ 13 _ _ _ hSw.2.1]; rfl))
      try simp only [Act.put, gA, gS, gZ, sA, sZ, sS]
      refine tk 5 (.pointer (some ⟨w.heap.size, 12, none⟩)) rfl (.inl ⟨by rfl, ?_⟩) ?_
      · intro w9 hSw
        try dsimp only at hSw
        go_simp
        all_goals try decide
        all_goals try assumption
        all_goals try omega
      try simp only [Act.put, gA, gS, gZ, sA, sZ, sS]
      refine tk 6 (.int .u16 u) rfl (.inl ⟨by rfl, ?_⟩) ?_
      · intro w9 hSw
        try dsimp only at hSw
        exact ex_load 22 (.tmp 19) rfl _ _ rfl (ld_22 _ _ _ _ (by rw [cell_of_row _ _ 12 _ _ _ hSw.2.1]; rfl))
      try simp only [Act.put, gA, gS, gZ, sA, sZ, sS]
      refine tk 7 (cmV k 0 0 false 0 false none 0 0 false false false 0 0 u m 0) rfl (.inl ⟨by rfl, ?_⟩) ?_
      · intro w9 hSw
        try dsimp only at hSw
        go_simp
        all_goals try decide
        all_goals try assumption
        all_goals try omega
      try simp only [Act.put, gA, gS, gZ, sA, sZ, sS]
      refine tk 8 (cmV k i s z n q a len cap t l c b e u m o) rfl (.inl ⟨by rfl, ?_⟩) ?_
      · intro w9 hSw
        try dsimp only at hSw
        exact ex_load 36 (.tmp 1) rfl _ _ rfl (loadRC _ _ _ _ _ _ _ _ _ _ _ _ _ _ _ _ _ _ _ _ hSw.2.1)
      try simp only [Act.put, gA, gS, gZ, sA, sZ, sS]
      refine wpAnyH_ready (rs := [9]) (by kernel_rfl) (by simp) ?_
      refine AllReadyH.cons rfl (fun K' hK => ?_) AllReadyH.nil
      rw [if_pos (by rfl)]
      simp only [gA, gS, gZ]
      go_wp2_with fail
      refine (HS.out _ hW).mono ?_
      rintro r ww ⟨rfl, v34_0, v34_1, rfl⟩
      try go_wp2_with fail
      refine hK.out _ _ (⟨(Below.al (Below.al hW _) _), (ext_al (ext_al hB)), C0, hC0, (ext_al (ext_al hR)), (ext_al (ext_al hA0))⟩) (fun hHeld => ?_)
      clear hK K'
      try simp only [Act.put, gA, gS, gZ, sA, sZ, sS]
      clear hW hB hC0 hR hA0
      obtain ⟨hW, hB, C0, hC0, hR, hA0⟩ := id hHeld
      refine tk 10 (.bool false) rfl (.inl ⟨by rfl, ?_⟩) ?_
      · intro w9 hSw
        try dsimp only at hSw
        go_simp
        all_goals try decide
        all_goals try assumption
        all_goals try omega
      try simp only [Act.put, gA, gS, gZ, sA, sZ, sS]
      refine tk 11 undef rfl (.inr ⟨by rfl, rfl⟩) ?_
      try simp only [Act.put, gA, gS, gZ, sA, sZ, sS]
      refine tk 12 undef rfl (.inr ⟨by rfl, rfl⟩) ?_
      try simp only [Act.put, gA, gS, gZ, sA, sZ, sS]
      refine tk 13 undef rfl (.inr ⟨by rfl, rfl⟩) ?_
      try simp only [Act.put, gA, gS, gZ, sA, sZ, sS]
      refine tk 14 (.bool false) rfl (.inl ⟨by rfl, ?_⟩) ?_
      · intro w9 hSw
        try dsimp only at hSw
        go_simp
        all_goals try decide
        all_goals try assumption
        all_goals try omega
      try simp only [Act.put, gA, gS, gZ, sA, sZ, sS]
      refine tk 15 (.bool false) rfl (.inl ⟨by rfl, ?_⟩) ?_
      · intro w9 hSw
        try dsimp only at hSw
        go_simp
        all_goals try decide
        all_goals try assumption
        all_goals try omega
      try simp only [Act.put, gA, gS, gZ, sA, sZ, sS]
      refine tk 16 undef rfl (.inr ⟨by rfl, rfl⟩) ?_
      try simp only [Act.put, gA, gS, gZ, sA, sZ, sS]
      refine tk 17 undef rfl (.inr ⟨by rfl, rfl⟩) ?_
      try simp only [Act.put, gA, gS, gZ, sA, sZ, sS]
      refine tk 18 undef rfl (.inr ⟨by rfl, rfl⟩) ?_
      try simp only [Act.put, gA, gS, gZ, sA, sZ, sS]
      refine tk 19 (.bool false) rfl (.inl ⟨by rfl, ?_⟩) ?_
      · intro w9 hSw
        try dsimp only at hSw
        go_simp
        all_goals try decide
        all_goals try assumption
        all_goals try omega
      try simp only [Act.put, gA, gS, gZ, sA, sZ, sS]
      refine wpAnyH_ready (rs := [20]) (by kernel_rfl) (by simp) ?_
      refine AllReadyH.cons rfl (fun K' hK => ?_) AllReadyH.nil
      rw [if_pos (by rfl)]
      simp only [gA, gS, gZ]
      refine wp_store_by 31 (.tmp 2) (.tmp 14) rfl _ _ rfl rfl (store8 _ _ C0 x0 y1 y2 0 0 0 0 0 _ hR hC0) ?_
      refine hK.out _ _ (⟨below_setRow hW (by omega) _, (setRow_other _ _ _ _ (by omega)).trans hB, _, rfl, setRow_heap _ _ _ _ _ _ hR, (setRow_other _ _ _ _ (by omega)).trans hA0⟩) (fun hHeld => ?_)
      clear hK K'
      try simp only [Act.put, gA, gS, gZ, sA, sZ, sS]
      refine tk 21 (.bool false) rfl (.inl ⟨by rfl, ?_⟩) ?_
      · intro w9 hSw
        try dsimp only at hSw
        go_simp
        all_goals try decide
        all_goals try assumption
        all_goals try omega
      try simp only [Act.put, gA, gS, gZ, sA, sZ, sS]
      refine wpAnyH_done (by kernel_rfl) ?_ _
      have hc := fun j => cell_of_row _ (w.heap.size + 1) j _ _ _ (setRow_heap _ _ _ (ar8 x0 y1 y2 0 0 0 0 0) _ _ hR)
      have hb := below_setRow hW (Nat.le_succ w.heap.size) (ar8 x0 y1 y2 0 0 0 0 0)
      clear hHeld hW hB hC0
      go_wp2_with fail
      refine bodyPost_ret (v := .tuple #[arr8 x0 y1 y2 0 0 0 0 0, .bool false]) ?_ rfl ⟨⟨x0, y1, y2, 0, 0, 0, 0, 0⟩, false, rfl, ?_, ?_⟩
      · simp [results, Try.results62, go_sem, hc]
      · exact hO.out
      · exact hb
    by_cases h0 : 0 ≤ m
    · by_cases h1 : m ≤ 7
      · obtain rfl : true = V := by rw [← e2]; simp [h0, h1]
        clear e2
        go_wp2_with fail
        refine wp_region_held_drew (S := fun x => Below w.heap.size w x ∧ x.heap[w.heap.size]? = some (.cells (cmC k i s z n q a len cap t l c b e u m o) 36 (0, 0)) ∧ ∃ C : Array Value, C.size = 8 ∧ x.heap[w.heap.size + 1]? = some (.cells C 31 (0, 0)) ∧ x.heap[P]? = some (.cells (ar8 x0 y1 y2 0 0 0 0 0) 31 (0, 0))) (by kernel_rfl) (⟨Below.drew hcW, (heap_drew _ _).trans hcB, ar8 0 0 0 0 0 0 0 0, rfl, (heap_drew _ _).trans hcR, (heap_drew _ _).trans hcP⟩) (fun hHeld => ?_)
        obtain ⟨hW, hB, C0, hC0, hR, hA0⟩ := id hHeld
        refine tk 0 (arr8 x0 y1 y2 0 0 0 0 0) rfl (.inl ⟨by rfl, ?_⟩) ?_
        · intro w9 hSw
          try dsimp only at hSw
          obtain ⟨_, _, _, _, _, hA⟩ := hSw
          exact ex_load 31 (.tmp 4) rfl _ _ rfl (load8 _ _ _ _ _ _ _ _ _ _ _ hA)
        try simp only [Act.put, gA, gS, gZ, sA, sZ, sS]
        refine tk 1 (.pointer (some ⟨w.heap.size, 0, none⟩)) rfl (.inl ⟨by rfl, ?_⟩) ?_
        · intro w9 hSw
          try dsimp only at hSw
          go_simp
          all_goals try decide
          all_goals try assumption
          all_goals try omega
        try simp only [Act.put, gA, gS, gZ, sA, sZ, sS]
        refine tk 2 (.int .u8 k) rfl (.inl ⟨by rfl, ?_⟩) ?_
        · intro w9 hSw
          try dsimp only at hSw
          exact ex_load 5 (.tmp 15) rfl _ _ rfl (ld_5 _ _ _ _ (by rw [cell_of_row _ _ 0 _ _ _ hSw.2.1]; rfl))
        try simp only [Act.put, gA, gS, gZ, sA, sZ, sS]
        refine tk 3 (.pointer (some ⟨w.heap.size, 13, none⟩)) rfl (.inl ⟨by rfl, ?_⟩) ?_
        · intro w9 hSw
          try dsimp only at hSw
          go_simp
          all_goals try decide
          all_goals try assumption
          all_goals try omega
        try simp only [Act.put, gA, gS, gZ, sA, sZ, sS]
        refine tk 4 (.int .i64 m) rfl (.inl ⟨by rfl, ?_⟩) ?_
        · intro w9 hSw
          try dsimp only at hSw
          exact ex_load 3 (.tmp 17) rfl _ _ rfl (ld_3 _ _ _ _ (by rw [cell_of_row _ _ 13 _ _ _ hSw.2.1]; rfl))
        try simp only [Act.put, gA, gS, gZ, sA, sZ, sS]
        refine tk 5 (.pointer (some ⟨w.heap.size, 12, none⟩)) rfl (.inl ⟨by rfl, ?_⟩) ?_
        · intro w9 hSw
          try dsimp only at hSw
          go_simp
          all_goals try decide
          all_goals try assumption
          all_goals try omega
        try simp only [Act.put, gA, gS, gZ, sA, sZ, sS]
        refine tk 6 (.int .u16 u) rfl (.inl ⟨by rfl, ?_⟩) ?_
        · intro w9 hSw
          try dsimp only at hSw
          exact ex_load 22 (.tmp 19) rfl _ _ rfl (ld_22 _ _ _ _ (by rw [cell_of_row _ _ 12 _ _ _ hSw.2.1]; rfl))
        try simp only [Act.put, gA, gS, gZ, sA, sZ, sS]
        refine tk 7 (cmV k 0 0 false 0 false none 0 0 false false false 0 0 u m 0) rfl (.inl ⟨by rfl, ?_⟩) ?_
        · intro w9 hSw
          try dsimp only at hSw
          go_simp
          all_goals try decide
          all_goals try assumption
          all_goals try omega
        try simp only [Act.put, gA, gS, gZ, sA, sZ, sS]
        refine tk 8 (cmV k i s z n q a len cap t l c b e u m o) rfl (.inl ⟨by rfl, ?_⟩) ?_
        · intro w9 hSw
          try dsimp only at hSw
          exact ex_load 36 (.tmp 1) rfl _ _ rfl (loadRC _ _ _ _ _ _ _ _ _ _ _ _ _ _ _ _ _ _ _ _ hSw.2.1)
        try simp only [Act.put, gA, gS, gZ, sA, sZ, sS]
        refine wpAnyH_ready (rs := [9]) (by kernel_rfl) (by simp) ?_
        refine AllReadyH.cons rfl (fun K' hK => ?_) AllReadyH.nil
        rw [if_pos (by rfl)]
        simp only [gA, gS, gZ]
        go_wp2_with fail
        refine (HS.out _ hW).mono ?_
        rintro r ww ⟨rfl, v35_0, v35_1, rfl⟩
        try go_wp2_with fail
        refine hK.out _ _ (⟨(Below.al (Below.al hW _) _), (ext_al (ext_al hB)), C0, hC0, (ext_al (ext_al hR)), (ext_al (ext_al hA0))⟩) (fun hHeld => ?_)
        clear hK K'
        try simp only [Act.put, gA, gS, gZ, sA, sZ, sS]
        clear hW hB hC0 hR hA0
        obtain ⟨hW, hB, C0, hC0, hR, hA0⟩ := id hHeld
        refine tk 10 (.bool true) rfl (.inl ⟨by rfl, ?_⟩) ?_
        · intro w9 hSw
          try dsimp only at hSw
          go_simp
          all_goals try decide
          all_goals try assumption
          all_goals try omega
        try simp only [Act.put, gA, gS, gZ, sA, sZ, sS]
        refine tk 11 (.pointer (some ⟨w.heap.size, 13, none⟩)) rfl (.inl ⟨by rfl, ?_⟩) ?_
        · intro w9 hSw
          try dsimp only at hSw
          go_simp
          all_goals try decide
          all_goals try assumption
          all_goals try omega
        try simp only [Act.put, gA, gS, gZ, sA, sZ, sS]
        refine tk 12 (.int .i64 m) rfl (.inl ⟨by rfl, ?_⟩) ?_
        · intro w9 hSw
          try dsimp only at hSw
          exact ex_load 3 (.tmp 25) rfl _ _ rfl (ld_3 _ _ _ _ (by rw [cell_of_row _ _ 13 _ _ _ hSw.2.1]; rfl))
        try simp only [Act.put, gA, gS, gZ, sA, sZ, sS]
        refine tk 13 (.bool true) rfl (.inl ⟨by rfl, ?_⟩) ?_
        · intro w9 hSw
          try dsimp only at hSw
          go_simp
          all_goals try decide
          all_goals try omega
        try simp only [Act.put, gA, gS, gZ, sA, sZ, sS]
        refine tk 14 (.bool true) rfl (.inl ⟨by rfl, ?_⟩) ?_
        · intro w9 hSw
          try dsimp only at hSw
          go_simp
          all_goals try decide
          all_goals try assumption
          all_goals try omega
        try simp only [Act.put, gA, gS, gZ, sA, sZ, sS]
        refine tk 15 (.bool true) rfl (.inl ⟨by rfl, ?_⟩) ?_
        · intro w9 hSw
          try dsimp only at hSw
          go_simp
          all_goals try decide
          all_goals try assumption
          all_goals try omega
        try simp only [Act.put, gA, gS, gZ, sA, sZ, sS]
        refine tk 16 (.pointer (some ⟨w.heap.size, 13, none⟩)) rfl (.inl ⟨by rfl, ?_⟩) ?_
        · intro w9 hSw
          try dsimp only at hSw
          go_simp
          all_goals try decide
          all_goals try assumption
          all_goals try omega
        try simp only [Act.put, gA, gS, gZ, sA, sZ, sS]
        refine tk 17 (.int .i64 m) rfl (.inl ⟨by rfl, ?_⟩) ?_
        · intro w9 hSw
          try dsimp only at hSw
          exact ex_load 3 (.tmp 30) rfl _ _ rfl (ld_3 _ _ _ _ (by rw [cell_of_row _ _ 13 _ _ _ hSw.2.1]; rfl))
        try simp only [Act.put, gA, gS, gZ, sA, sZ, sS]
        refine tk 18 (.bool true) rfl (.inl ⟨by rfl, ?_⟩) ?_
        · intro w9 hSw
          try dsimp only at hSw
          go_simp
          all_goals try decide
          all_goals try omega
        try simp only [Act.put, gA, gS, gZ, sA, sZ, sS]
        refine tk 19 (.bool true) rfl (.inl ⟨by rfl, ?_⟩) ?_
        · intro w9 hSw
          try dsimp only at hSw
          go_simp
          all_goals try decide
          all_goals try assumption
          all_goals try omega
        try simp only [Act.put, gA, gS, gZ, sA, sZ, sS]
        refine wpAnyH_ready (rs := [20]) (by kernel_rfl) (by simp) ?_
        refine AllReadyH.cons rfl (fun K' hK => ?_) AllReadyH.nil
        rw [if_pos (by rfl)]
        simp only [gA, gS, gZ]
        refine wp_store_by 31 (.tmp 2) (.tmp 14) rfl _ _ rfl rfl (store8 _ _ C0 x0 y1 y2 0 0 0 0 0 _ hR hC0) ?_
        refine hK.out _ _ (⟨below_setRow hW (by omega) _, (setRow_other _ _ _ _ (by omega)).trans hB, _, rfl, setRow_heap _ _ _ _ _ _ hR, (setRow_other _ _ _ _ (by omega)).trans hA0⟩) (fun hHeld => ?_)
        clear hK K'
        try simp only [Act.put, gA, gS, gZ, sA, sZ, sS]
        refine tk 21 (.bool true) rfl (.inl ⟨by rfl, ?_⟩) ?_
        · intro w9 hSw
          try dsimp only at hSw
          go_simp
          all_goals try decide
          all_goals try assumption
          all_goals try omega
        try simp only [Act.put, gA, gS, gZ, sA, sZ, sS]
        refine wpAnyH_done (by kernel_rfl) ?_ _
        have hc := fun j => cell_of_row _ (w.heap.size + 1) j _ _ _ (setRow_heap _ _ _ (ar8 x0 y1 y2 0 0 0 0 0) _ _ hR)
        have hb := below_setRow hW (Nat.le_succ w.heap.size) (ar8 x0 y1 y2 0 0 0 0 0)
        clear hHeld hW hB hC0
        go_wp2_with fail
        refine bodyPost_ret (v := .tuple #[arr8 x0 y1 y2 0 0 0 0 0, .bool true]) ?_ rfl ⟨⟨x0, y1, y2, 0, 0, 0, 0, 0⟩, true, rfl, ?_, ?_⟩
        · simp [results, Try.results62, go_sem, hc]
        · exact hO.out
        · exact hb
      · obtain rfl : false = V := by rw [← e2]; simp [h0, h1]
        clear e2
        go_wp2_with fail
        refine wp_region_held_drew (S := fun x => Below w.heap.size w x ∧ x.heap[w.heap.size]? = some (.cells (cmC k i s z n q a len cap t l c b e u m o) 36 (0, 0)) ∧ ∃ C : Array Value, C.size = 8 ∧ x.heap[w.heap.size + 1]? = some (.cells C 31 (0, 0)) ∧ x.heap[P]? = some (.cells (ar8 x0 y1 y2 0 0 0 0 0) 31 (0, 0))) (by kernel_rfl) (⟨Below.drew hcW, (heap_drew _ _).trans hcB, ar8 0 0 0 0 0 0 0 0, rfl, (heap_drew _ _).trans hcR, (heap_drew _ _).trans hcP⟩) (fun hHeld => ?_)
        obtain ⟨hW, hB, C0, hC0, hR, hA0⟩ := id hHeld
        refine tk 0 (arr8 x0 y1 y2 0 0 0 0 0) rfl (.inl ⟨by rfl, ?_⟩) ?_
        · intro w9 hSw
          try dsimp only at hSw
          obtain ⟨_, _, _, _, _, hA⟩ := hSw
          exact ex_load 31 (.tmp 4) rfl _ _ rfl (load8 _ _ _ _ _ _ _ _ _ _ _ hA)
        try simp only [Act.put, gA, gS, gZ, sA, sZ, sS]
        refine tk 1 (.pointer (some ⟨w.heap.size, 0, none⟩)) rfl (.inl ⟨by rfl, ?_⟩) ?_
        · intro w9 hSw
          try dsimp only at hSw
          go_simp
          all_goals try decide
          all_goals try assumption
          all_goals try omega
        try simp only [Act.put, gA, gS, gZ, sA, sZ, sS]
        refine tk 2 (.int .u8 k) rfl (.inl ⟨by rfl, ?_⟩) ?_
        · intro w9 hSw
          try dsimp only at hSw
          exact ex_load 5 (.tmp 15) rfl _ _ rfl (ld_5 _ _ _ _ (by rw [cell_of_row _ _ 0 _ _ _ hSw.2.1]; rfl))
        try simp only [Act.put, gA, gS, gZ, sA, sZ, sS]
        refine tk 3 (.pointer (some ⟨w.heap.size, 13, none⟩)) rfl (.inl ⟨by rfl, ?_⟩) ?_
        · intro w9 hSw
          try dsimp only at hSw
          go_simp
          all_goals try decide
          all_goals try assumption
          all_goals try omega
        try simp only [Act.put, gA, gS, gZ, sA, sZ, sS]
        refine tk 4 (.int .i64 m) rfl (.inl ⟨by rfl, ?_⟩) ?_
        · intro w9 hSw
          try dsimp only at hSw
          exact ex_load 3 (.tmp 17) rfl _ _ rfl (ld_3 _ _ _ _ (by rw [cell_of_row _ _ 13 _ _ _ hSw.2.1]; rfl))
        try simp only [Act.put, gA, gS, gZ, sA, sZ, sS]
        refine tk 5 (.pointer (some ⟨w.heap.size, 12, none⟩)) rfl (.inl ⟨by rfl, ?_⟩) ?_
        · intro w9 hSw
          try dsimp only at hSw
          go_simp
          all_goals try decide
          all_goals try assumption
          all_goals try omega
        try simp only [Act.put, gA, gS, gZ, sA, sZ, sS]
        refine tk 6 (.int .u16 u) rfl (.inl ⟨by rfl, ?_⟩) ?_
        · intro w9 hSw
          try dsimp only at hSw
          exact ex_load 22 (.tmp 19) rfl _ _ rfl (ld_22 _ _ _ _ (by rw [cell_of_row _ _ 12 _ _ _ hSw.2.1]; rfl))
        try simp only [Act.put, gA, gS, gZ, sA, sZ, sS]
        refine tk 7 (cmV k 0 0 false 0 false none 0 0 false false false 0 0 u m 0) rfl (.inl ⟨by rfl, ?_⟩) ?_
        · intro w9 hSw
          try dsimp only at hSw
          go_simp
          all_goals try decide
          all_goals try assumption
          all_goals try omega
        try simp only [Act.put, gA, gS, gZ, sA, sZ, sS]
        refine tk 8 (cmV k i s z n q a len cap t l c b e u m o) rfl (.inl ⟨by rfl, ?_⟩) ?_
        · intro w9 hSw
          try dsimp only at hSw
          exact ex_load 36 (.tmp 1) rfl _ _ rfl (loadRC _ _ _ _ _ _ _ _ _ _ _ _ _ _ _ _ _ _ _ _ hSw.2.1)
        try simp only [Act.put, gA, gS, gZ, sA, sZ, sS]
        refine wpAnyH_ready (rs := [9]) (by kernel_rfl) (by simp) ?_
        refine AllReadyH.cons rfl (fun K' hK => ?_) AllReadyH.nil
        rw [if_pos (by rfl)]
        simp only [gA, gS, gZ]
        go_wp2_with fail
        refine (HS.out _ hW).mono ?_
        rintro r ww ⟨rfl, v36_0, v36_1, rfl⟩
        try go_wp2_with fail
        refine hK.out _ _ (⟨(Below.al (Below.al hW _) _), (ext_al (ext_al hB)), C0, hC0, (ext_al (ext_al hR)), (ext_al (ext_al hA0))⟩) (fun hHeld => ?_)
        clear hK K'
        try simp only [Act.put, gA, gS, gZ, sA, sZ, sS]
        clear hW hB hC0 hR hA0
        obtain ⟨hW, hB, C0, hC0, hR, hA0⟩ := id hHeld
        refine tk 10 (.bool true) rfl (.inl ⟨by rfl, ?_⟩) ?_
        · intro w9 hSw
          try dsimp only at hSw
          go_simp
          all_goals try decide
          all_goals try assumption
          all_goals try omega
        try simp only [Act.put, gA, gS, gZ, sA, sZ, sS]
        refine tk 11 (.pointer (some ⟨w.heap.size, 13, none⟩)) rfl (.inl ⟨by rfl, ?_⟩) ?_
        · intro w9 hSw
          try dsimp only at hSw
          go_simp
          all_goals try decide
          all_goals try assumption
          all_goals try omega
        try simp only [Act.put, gA, gS, gZ, sA, sZ, sS]
        refine tk 12 (.int .i64 m) rfl (.inl ⟨by rfl, ?_⟩) ?_
        · intro w9 hSw
          try dsimp only at hSw
          exact ex_load 3 (.tmp 25) rfl _ _ rfl (ld_3 _ _ _ _ (by rw [cell_of_row _ _ 13 _ _ _ hSw.2.1]; rfl))
        try simp only [Act.put, gA, gS, gZ, sA, sZ, sS]
        refine tk 13 (.bool true) rfl (.inl ⟨by rfl, ?_⟩) ?_
        · intro w9 hSw
          try dsimp only at hSw
          go_simp
          all_goals try decide
          all_goals try omega
        try simp only [Act.put, gA, gS, gZ, sA, sZ, sS]
        refine tk 14 (.bool true) rfl (.inl ⟨by rfl, ?_⟩) ?_
        · intro w9 hSw
          try dsimp only at hSw
          go_simp
          all_goals try decide
          all_goals try assumption
          all_goals try omega
        try simp only [Act.put, gA, gS, gZ, sA, sZ, sS]
        refine tk 15 (.bool true) rfl (.inl ⟨by rfl, ?_⟩) ?_
        · intro w9 hSw
          try dsimp only at hSw
          go_simp
          all_goals try decide
          all_goals try assumption
          all_goals try omega
        try simp only [Act.put, gA, gS, gZ, sA, sZ, sS]
        refine tk 16 (.pointer (some ⟨w.heap.size, 13, none⟩)) rfl (.inl ⟨by rfl, ?_⟩) ?_
        · intro w9 hSw
          try dsimp only at hSw
          go_simp
          all_goals try decide
          all_goals try assumption
          all_goals try omega
        try simp only [Act.put, gA, gS, gZ, sA, sZ, sS]
        refine tk 17 (.int .i64 m) rfl (.inl ⟨by rfl, ?_⟩) ?_
        · intro w9 hSw
          try dsimp only at hSw
          exact ex_load 3 (.tmp 30) rfl _ _ rfl (ld_3 _ _ _ _ (by rw [cell_of_row _ _ 13 _ _ _ hSw.2.1]; rfl))
        try simp only [Act.put, gA, gS, gZ, sA, sZ, sS]
        refine tk 18 (.bool false) rfl (.inl ⟨by rfl, ?_⟩) ?_
        · intro w9 hSw
          try dsimp only at hSw
          go_simp
          all_goals try decide
          all_goals try omega
        try simp only [Act.put, gA, gS, gZ, sA, sZ, sS]
        refine tk 19 (.bool false) rfl (.inl ⟨by rfl, ?_⟩) ?_
        · intro w9 hSw
          try dsimp only at hSw
          go_simp
          all_goals try decide
          all_goals try assumption
          all_goals try omega
        try simp only [Act.put, gA, gS, gZ, sA, sZ, sS]
        refine wpAnyH_ready (rs := [20]) (by kernel_rfl) (by simp) ?_
        refine AllReadyH.cons rfl (fun K' hK => ?_) AllReadyH.nil
        rw [if_pos (by rfl)]
        simp only [gA, gS, gZ]
        refine wp_store_by 31 (.tmp 2) (.tmp 14) rfl _ _ rfl rfl (store8 _ _ C0 x0 y1 y2 0 0 0 0 0 _ hR hC0) ?_
        refine hK.out _ _ (⟨below_setRow hW (by omega) _, (setRow_other _ _ _ _ (by omega)).trans hB, _, rfl, setRow_heap _ _ _ _ _ _ hR, (setRow_other _ _ _ _ (by omega)).trans hA0⟩) (fun hHeld => ?_)
        clear hK K'
        try simp only [Act.put, gA, gS, gZ, sA, sZ, sS]
        refine tk 21 (.bool false) rfl (.inl ⟨by rfl, ?_⟩) ?_
        · intro w9 hSw
          try dsimp only at hSw
          go_simp
          all_goals try decide
          all_goals try assumption
          all_goals try omega
        try simp only [Act.put, gA, gS, gZ, sA, sZ, sS]
        refine wpAnyH_done (by kernel_rfl) ?_ _
        have hc := fun j => cell_of_row _ (w.heap.size + 1) j _ _ _ (setRow_heap _ _ _ (ar8 x0 y1 y2 0 0 0 0 0) _ _ hR)
        have hb := below_setRow hW (Nat.le_succ w.heap.size) (ar8 x0 y1 y2 0 0 0 0 0)
        clear hHeld hW hB hC0
        go_wp2_with fail
        refine bodyPost_ret (v := .tuple #[arr8 x0 y1 y2 0 0 0 0 0, .bool false]) ?_ rfl ⟨⟨x0, y1, y2, 0, 0, 0, 0, 0⟩, false, rfl, ?_, ?_⟩
        · simp [results, Try.results62, go_sem, hc]
        · exact hO.out
        · exact hb
    · obtain rfl : false = V := by rw [← e2]; simp [h0]
      clear e2
      go_wp2_with fail
      refine wp_region_held_drew (S := fun x => Below w.heap.size w x ∧ x.heap[w.heap.size]? = some (.cells (cmC k i s z n q a len cap t l c b e u m o) 36 (0, 0)) ∧ ∃ C : Array Value, C.size = 8 ∧ x.heap[w.heap.size + 1]? = some (.cells C 31 (0, 0)) ∧ x.heap[P]? = some (.cells (ar8 x0 y1 y2 0 0 0 0 0) 31 (0, 0))) (by kernel_rfl) (⟨Below.drew hcW, (heap_drew _ _).trans hcB, ar8 0 0 0 0 0 0 0 0, rfl, (heap_drew _ _).trans hcR, (heap_drew _ _).trans hcP⟩) (fun hHeld => ?_)
      obtain ⟨hW, hB, C0, hC0, hR, hA0⟩ := id hHeld
      refine tk 0 (arr8 x0 y1 y2 0 0 0 0 0) rfl (.inl ⟨by rfl, ?_⟩) ?_
      · intro w9 hSw
        try dsimp only at hSw
        obtain ⟨_, _, _, _, _, hA⟩ := hSw
        exact ex_load 31 (.tmp 4) rfl _ _ rfl (load8 _ _ _ _ _ _ _ _ _ _ _ hA)
      try simp only [Act.put, gA, gS, gZ, sA, sZ, sS]
      refine tk 1 (.pointer (some ⟨w.heap.size, 0, none⟩)) rfl (.inl ⟨by rfl, ?_⟩) ?_
      · intro w9 hSw
        try dsimp only at hSw
        go_simp
        all_goals try decide
        all_goals try assumption
        all_goals try omega
      try simp only [Act.put, gA, gS, gZ, sA, sZ, sS]
      refine tk 2 (.int .u8 k) rfl (.inl ⟨by rfl, ?_⟩) ?_
      · intro w9 hSw
        try dsimp only at hSw
        exact ex_load 5 (.tmp 15) rfl _ _ rfl (ld_5 _ _ _ _ (by rw [cell_of_row _ _ 0 _ _ _ hSw.2.1]; rfl))
      try simp only [Act.put, gA, gS, gZ, sA, sZ, sS]
      refine tk 3 (.pointer (some ⟨w.heap.size, 13, none⟩)) rfl (.inl ⟨by rfl, ?_⟩) ?_
      · intro w9 hSw
        try dsimp only at hSw
        go_simp
        all_goals try decide
        all_goals try assumption
        all_goals try omega
      try simp only [Act.put, gA, gS, gZ, sA, sZ, sS]
      refine tk 4 (.int .i64 m) rfl (.inl ⟨by rfl, ?_⟩) ?_
      · intro w9 hSw
        try dsimp only at hSw
        exact ex_load 3 (.tmp 17) rfl _ _ rfl (ld_3 _ _ _ _ (by rw [cell_of_row _ _ 13 _ _ _ hSw.2.1]; rfl))
      try simp only [Act.put, gA, gS, gZ, sA, sZ, sS]
      refine tk 5 (.pointer (some ⟨w.heap.size, 12, none⟩)) rfl (.inl ⟨by rfl, ?_⟩) ?_
      · intro w9 hSw
        try dsimp only at hSw
        go_simp
        all_goals try decide
        all_goals try assumption
        all_goals try omega
      try simp only [Act.put, gA, gS, gZ, sA, sZ, sS]
      refine tk 6 (.int .u16 u) rfl (.inl ⟨by rfl, ?_⟩) ?_
      · intro w9 hSw
        try dsimp only at hSw
        exact ex_load 22 (.tmp 19) rfl _ _ rfl (ld_22 _ _ _ _ (by rw [cell_of_row _ _ 12 _ _ _ hSw.2.1]; rfl))
      try simp only [Act.put, gA, gS, gZ, sA, sZ, sS]
      refine tk 7 (cmV k 0 0 false 0 false none 0 0 false false false 0 0 u m 0) rfl (.inl ⟨by rfl, ?_⟩) ?_
      · intro w9 hSw
        try dsimp only at hSw
        go_simp
        all_goals try decide
        all_goals try assumption
        all_goals try omega
      try simp only [Act.put, gA, gS, gZ, sA, sZ, sS]
      refine tk 8 (cmV k i s z n q a len cap t l c b e u m o) rfl (.inl ⟨by rfl, ?_⟩) ?_
      · intro w9 hSw
        try dsimp only at hSw
        exact ex_load 36 (.tmp 1) rfl _ _ rfl (loadRC _ _ _ _ _ _ _ _ _ _ _ _ _ _ _ _ _ _ _ _ hSw.2.1)
      try simp only [Act.put, gA, gS, gZ, sA, sZ, sS]
      refine wpAnyH_ready (rs := [9]) (by kernel_rfl) (by simp) ?_
      refine AllReadyH.cons rfl (fun K' hK => ?_) AllReadyH.nil
      rw [if_pos (by rfl)]
      simp only [gA, gS, gZ]
      go_wp2_with fail
      refine (HS.out _ hW).mono ?_
      rintro r ww ⟨rfl, v37_0, v37_1, rfl⟩
      try go_wp2_with fail
      refine hK.out _ _ (⟨(Below.al (Below.al hW _) _), (ext_al (ext_al hB)), C0, hC0, (ext_al (ext_al hR)), (ext_al (ext_al hA0))⟩) (fun hHeld => ?_)
      clear hK K'
      try simp only [Act.put, gA, gS, gZ, sA, sZ, sS]
      clear hW hB hC0 hR hA0
      obtain ⟨hW, hB, C0, hC0, hR, hA0⟩ := id hHeld
      refine tk 10 (.bool true) rfl (.inl ⟨by rfl, ?_⟩) ?_
      · intro w9 hSw
        try dsimp only at hSw
        go_simp
        all_goals try decide
        all_goals try assumption
        all_goals try omega
      try simp only [Act.put, gA, gS, gZ, sA, sZ, sS]
      refine tk 11 (.pointer (some ⟨w.heap.size, 13, none⟩)) rfl (.inl ⟨by rfl, ?_⟩) ?_
      · intro w9 hSw
        try dsimp only at hSw
        go_simp
        all_goals try decide
        all_goals try assumption
        all_goals try omega
      try simp only [Act.put, gA, gS, gZ, sA, sZ, sS]
      refine tk 12 (.int .i64 m) rfl (.inl ⟨by rfl, ?_⟩) ?_
      · intro w9 hSw
        try dsimp only at hSw
        exact ex_load 3 (.tmp 25) rfl _ _ rfl (ld_3 _ _ _ _ (by rw [cell_of_row _ _ 13 _ _ _ hSw.2.1]; rfl))
      try simp only [Act.put, gA, gS, gZ, sA, sZ, sS]
      refine tk 13 (.bool false) rfl (.inl ⟨by rfl, ?_⟩) ?_
      · intro w9 hSw
        try dsimp only at hSw
        go_simp
        all_goals try decide
        all_goals try omega
      try simp only [Act.put, gA, gS, gZ, sA, sZ, sS]
      refine tk 14 (.bool false) rfl (.inl ⟨by rfl, ?_⟩) ?_
      · intro w9 hSw
        try dsimp only at hSw
        go_simp
        all_goals try decide
        all_goals try assumption
        all_goals try omega
      try simp only [Act.put, gA, gS, gZ, sA, sZ, sS]
      refine tk 15 (.bool false) rfl (.inl ⟨by rfl, ?_⟩) ?_
      · intro w9 hSw
        try dsimp only at hSw
        go_simp
        all_goals try decide
        all_goals try assumption
        all_goals try omega
      try simp only [Act.put, gA, gS, gZ, sA, sZ, sS]
      refine tk 16 undef rfl (.inr ⟨by rfl, rfl⟩) ?_
      try simp only [Act.put, gA, gS, gZ, sA, sZ, sS]
      refine tk 17 undef rfl (.inr ⟨by rfl, rfl⟩) ?_
      try simp only [Act.put, gA, gS, gZ, sA, sZ, sS]
      refine tk 18 undef rfl (.inr ⟨by rfl, rfl⟩) ?_
      try simp only [Act.put, gA, gS, gZ, sA, sZ, sS]
      refine tk 19 (.bool false) rfl (.inl ⟨by rfl, ?_⟩) ?_
      · intro w9 hSw
        try dsimp only at hSw
        go_simp
        all_goals try decide
        all_goals try assumption
        all_goals try omega
      try simp only [Act.put, gA, gS, gZ, sA, sZ, sS]
      refine wpAnyH_ready (rs := [20]) (by kernel_rfl) (by simp) ?_
      refine AllReadyH.cons rfl (fun K' hK => ?_) AllReadyH.nil
      rw [if_pos (by rfl)]
      simp only [gA, gS, gZ]
      refine wp_store_by 31 (.tmp 2) (.tmp 14) rfl _ _ rfl rfl (store8 _ _ C0 x0 y1 y2 0 0 0 0 0 _ hR hC0) ?_
      refine hK.out _ _ (⟨below_setRow hW (by omega) _, (setRow_other _ _ _ _ (by omega)).trans hB, _, rfl, setRow_heap _ _ _ _ _ _ hR, (setRow_other _ _ _ _ (by omega)).trans hA0⟩) (fun hHeld => ?_)
      clear hK K'
      try simp only [Act.put, gA, gS, gZ, sA, sZ, sS]
      refine tk 21 (.bool false) rfl (.inl ⟨by rfl, ?_⟩) ?_
      · intro w9 hSw
        try dsimp only at hSw
        go_simp
        all_goals try decide
        all_goals try assumption
        all_goals try omega
      try simp only [Act.put, gA, gS, gZ, sA, sZ, sS]
      refine wpAnyH_done (by kernel_rfl) ?_ _
      have hc := fun j => cell_of_row _ (w.heap.size + 1) j _ _ _ (setRow_heap _ _ _ (ar8 x0 y1 y2 0 0 0 0 0) _ _ hR)
      have hb := below_setRow hW (Nat.le_succ w.heap.size) (ar8 x0 y1 y2 0 0 0 0 0)
      clear hHeld hW hB hC0
      go_wp2_with fail
      refine bodyPost_ret (v := .tuple #[arr8 x0 y1 y2 0 0 0 0 0, .bool false]) ?_ rfl ⟨⟨x0, y1, y2, 0, 0, 0, 0, 0⟩, false, rfl, ?_, ?_⟩
      · simp [results, Try.results62, go_sem, hc]
      · exact hO.out
      · exact hb
#print axioms rsummed_any
end Go.Proofs.Ytlnlejdjekbipaa
