/-
  The walk of the document's opening, not in one frame.
  The walk of the document's opening, not in one frame.
-/
import Derived.Test.YtlnlejdjekbipaaRf
import Derived.Deep.DeepCutAuto
import Derived.Test.YtlnlejdjekbipaaTk9
namespace Go.Proofs.Ytlnlejdjekbipaa
open Go.RowKit

set_option linter.unusedSimpArgs false in
set_option maxHeartbeats 4000000 in
set_option maxRecDepth 100000 in
theorem ropenSA (f : Int) (hf : f = 32 ∨ f = 64) (C : Cm) (ok : C.Ok) (hq : C.q = false) (hg0 : decide ((⟨C.k, C.i, C.s, C.z, C.n, C.q, C.d, false, false, false, 0, 0, 0, 0, 0⟩ : Cm) = C) = false ∨ ¬ C.d.length = 0) (a : Option Addr) (cap : Nat) (hl : C.d.length ≤ 1000) (w : World) (hr : Row w a C.d.length C.d) :
    Calls Try.prog 57 #[C.v a C.d.length cap, .int .i64 f] w (QPost w (wBegin f C)) := by
  obtain ⟨E, hE⟩ : ∃ E, decide ((⟨C.k, C.i, C.s, C.z, C.n, C.q, C.d, false, false, false, 0, 0, 0, 0, 0⟩ : Cm) = C) = E := ⟨_, rfl⟩
  rw [hE] at hg0
  have HS : Hid (∀ W, Below w.heap.size w W → Calls Try.prog 18 #[cmV C.k C.i C.s C.z C.n C.q a C.d.length cap false false false 0 0 0 0 0, cmV C.k C.i C.s C.z C.n C.q a C.d.length cap C.t C.l C.c C.b C.e C.u C.m C.o] W fun r w' => r = .returned (.bool E) ∧ ∃ o1 o2, w' = (W.alloc o1).alloc o2) := fun W hb => by
    have := same_any ⟨C.k, C.i, C.s, C.z, C.n, C.q, C.d, false, false, false, 0, 0, 0, 0, 0⟩ C a C.d.length cap a C.d.length cap W (hr.next hb) (hr.next hb)
    rw [hE] at this
    exact this
  obtain ⟨B1, hB1, lB1, gB1⟩ : ∃ y, bitn C.z 1 = y ∧ 0 ≤ y ∧ y ≤ 1 := ⟨_, rfl, by unfold bitn; split <;> omega, by unfold bitn; split <;> omega⟩
  have KB1 : Hid (∀ W, Calls Try.prog 34 #[.bool C.z, .int .i64 1] W fun e w' => e = .returned (.int .i64 B1) ∧ w' = W) := fun W => hB1 ▸ rbit_any C.z 1 W
  obtain ⟨x0, hx0⟩ : ∃ y, (f + B1 : Int) % 256 = y := ⟨_, rfl⟩
  have KP : Hid (∀ W, Calls Try.prog 59 #[.int .i64 (f + B1), .agg #[.int .u16 C.i, .int .u8 C.s]] W fun e w' => e = .returned (arr8 x0 (C.i % 256) (C.i / 256) C.s 0 0 0 0) ∧ ∃ o1 o2 o3 o4 o5, w' = ((((W.alloc o1).alloc o2).alloc o3).alloc o4).alloc o5) := fun W => hx0 ▸ placed_any (f + B1) C.i C.s ok.i W
  obtain ⟨y4, hy4⟩ : ∃ y, (C.n : Int) % 256 = y := ⟨_, rfl⟩
  obtain ⟨y5, hy5⟩ : ∃ y, (C.n : Int) / 256 % 256 = y := ⟨_, rfl⟩
  obtain ⟨y6, hy6⟩ : ∃ y, (C.n : Int) / 65536 % 256 = y := ⟨_, rfl⟩
  obtain ⟨y7, hy7⟩ : ∃ y, (C.n : Int) / 16777216 = y := ⟨_, rfl⟩
  have KQ : Hid (∀ W, Calls Try.prog 74 #[arr8 x0 (C.i % 256) (C.i / 256) C.s 0 0 0 0, .int .i64 4, .int .i64 4, .int .u32 C.n] W fun e w' => e = .returned (.agg (ar8 x0 (C.i % 256) (C.i / 256) C.s y4 y5 y6 y7)) ∧ ∃ o1 o2, w' = (W.alloc o1).alloc o2) := fun W => by rw [← hy4, ← hy5, ← hy6, ← hy7]; exact put44 _ _ _ _ _ _ _ _ _ ok.n W
  obtain ⟨V, hV⟩ : ∃ V, (E && decide (C.d.length = 0) && (C.z || C.n == 0)) = V := ⟨_, rfl⟩
  have hO : Hid (wBegin f C = if V then some ⟨x0, C.i % 256, C.i / 256, C.s, y4, y5, y6, y7⟩ else none) := by
    have e1 : V = (C.only 7 && (C.z || C.n == 0)) := by rw [← hV, ← bare_7 C hq, hE]
    have e3 : x0 = bits .or .u8 f (bitv C.z 1) := by rw [← hx0, ← hB1]; rcases hf with rfl | rfl <;> cases C.z <;> decide
    unfold wBegin
    rw [if_neg (by rw [hq]; decide), ← e1, e3, ← hy4, ← hy5, ← hy6, ← hy7]
    rfl
  have hi := ok.i
  have hf0 : 0 ≤ f := by omega
  have hf1 : f ≤ 64 := by omega
  have HV : Hid _ := hV
  have hg : Hid (E = false ∨ ¬ C.d.length = 0) := hg0
  clear hg0
  clear hB1 hx0 hE hV hf hy4 hy5 hy6 hy7
  generalize wBegin f C = O at hO ⊢
  clear hr ok
  generalize hlen : C.d.length = len at HS HV hl hg ⊢
  obtain ⟨k, i, s, z, n, q, d, t, l, c, b, e, u, m, o⟩ := C
  dsimp only at HS hO hi KB1 KP KQ HV hg hq ⊢
  subst hq
  clear hlen
  have hl' : (len : Int) ≤ 1000 := by omega
  go_enter Try.func57, Try.ntmps57
  go_upto_region 6 with fail
  go_cut [9] from 10 (fun sv wx => sv = .bool V ∧ ∃ o1 o2, wx = ((((w.alloc (.cells (cmC k i s z n false a len cap t l c b e u m o) 36)).alloc (.cells (ar8 0 0 0 0 0 0 0 0) 31)).alloc (.cells (cmC k i s z n false a len cap false false false 0 0 0 0 0) 36)).alloc o1).alloc o2)
  case first =>
    have e2 := HV.out
    cases E
    · obtain rfl : false = V := by simpa using e2
      clear e2 hg
      go_wp2_with fail
      with_reducible refine (HS.out _ (by repeat (first | assumption | exact Below.refl _ _ | apply Below.drew | apply Below.al))).mono ?_
      rintro r ww ⟨rfl, v1, v2, rfl⟩
      go_wp2_with fail
      go_meet
      exact ⟨rfl, _, _, rfl⟩
    have h0 : ¬ len = 0 := by have := hg.out; simpa using this
    clear hg
    obtain rfl : false = V := by rw [← e2]; simp [h0]
    clear e2
    have b0 : ((len : Int) == 0) = false := by simp; omega
    go_wp2_with fail
    with_reducible refine (HS.out _ (by repeat (first | assumption | exact Below.refl _ _ | apply Below.drew | apply Below.al))).mono ?_
    rintro r ww ⟨rfl, v1, v2, rfl⟩
    go_wp2_with fail
    go_meet
    exact ⟨rfl, _, _, rfl⟩
  case rest =>
    obtain ⟨rfl, p1, p2, rfl⟩ := hcut
    clear hg
    go_wp2_with fail
    refine wp_region_held_drew (S := fun x => Below w.heap.size w x ∧ x.heap[w.heap.size]? = some (.cells (cmC k i s z n false a len cap t l c b e u m o) 36 (0, 0)) ∧ ∃ C : Array Value, C.size = 8 ∧ x.heap[w.heap.size + 1]? = some (.cells C 31 (0, 0))) (by kernel_rfl) (⟨Below.drew (Below.al (Below.al (Below.al (Below.al (Below.al (Below.refl _ _) _) _) _) _) _), (heap_drew _ _).trans (ext_al (ext_al (ext_al (ext_al (heap_new _ _))))), ar8 0 0 0 0 0 0 0 0, rfl, (heap_drew _ _).trans (ext_al (ext_al (ext_al (heap_at _ _ _ (by simp)))))⟩) (fun hHeld => ?_)
    obtain ⟨hW, hB, C0, hC0, hR⟩ := id hHeld
    refine tk 0 (.int .i64 f) rfl (.inl ⟨by rfl, ?_⟩) ?_
    · intro w9 hSw
      try dsimp only at hSw
      go_simp
      all_goals try decide
      all_goals try assumption
      all_goals try omega
    try simp only [Act.put, gA, gS, gZ, sA, sZ, sS]
    refine tk 1 (.pointer (some ⟨w.heap.size, 3, none⟩)) rfl (.inl ⟨by rfl, ?_⟩) ?_
    · intro w9 hSw
      try dsimp only at hSw
      go_simp
      all_goals try decide
      all_goals try assumption
      all_goals try omega
    try simp only [Act.put, gA, gS, gZ, sA, sZ, sS]
    refine tk 2 (.bool z) rfl (.inl ⟨by rfl, ?_⟩) ?_
    · intro w9 hSw
      try dsimp only at hSw
      exact ex_load 4 (.tmp 87) rfl _ _ rfl (ld_4 _ _ _ _ (by rw [cell_of_row _ _ 3 _ _ _ hSw.2.1]; rfl))
    try simp only [Act.put, gA, gS, gZ, sA, sZ, sS]
    refine tk 5 (.pointer (some ⟨w.heap.size, 1, none⟩)) rfl (.inl ⟨by rfl, ?_⟩) ?_
    · intro w9 hSw
      try dsimp only at hSw
      go_simp
      all_goals try decide
      all_goals try assumption
      all_goals try omega
    try simp only [Act.put, gA, gS, gZ, sA, sZ, sS]
    refine tk 6 (.agg #[.int .u16 i, .int .u8 s]) rfl (.inl ⟨by rfl, ?_⟩) ?_
    · intro w9 hSw
      try dsimp only at hSw
      exact ex_load 24 (.tmp 91) rfl _ _ rfl (ldPl _ _ _ _ (by rw [cell_of_row _ _ 1 _ _ _ hSw.2.1]; rfl) (by rw [cell_of_row _ _ 2 _ _ _ hSw.2.1]; rfl))
    try simp only [Act.put, gA, gS, gZ, sA, sZ, sS]
    refine tk 8 (.pointer (some ⟨w.heap.size, 4, none⟩)) rfl (.inl ⟨by rfl, ?_⟩) ?_
    · intro w9 hSw
      try dsimp only at hSw
      go_simp
      all_goals try decide
      all_goals try assumption
      all_goals try omega
    try simp only [Act.put, gA, gS, gZ, sA, sZ, sS]
    refine tk 9 (.int .u32 n) rfl (.inl ⟨by rfl, ?_⟩) ?_
    · intro w9 hSw
      try dsimp only at hSw
      exact ex_load 25 (.tmp 94) rfl _ _ rfl (ld_25 _ _ _ _ (by rw [cell_of_row _ _ 4 _ _ _ hSw.2.1]; rfl))
    try simp only [Act.put, gA, gS, gZ, sA, sZ, sS]
    refine tk 11 (.bool V) rfl (.inl ⟨by rfl, ?_⟩) ?_
    · intro w9 hSw
      try dsimp only at hSw
      go_simp
      all_goals try decide
      all_goals try assumption
      all_goals try omega
    try simp only [Act.put, gA, gS, gZ, sA, sZ, sS]
    refine wpAnyH_ready (rs := [3]) (by kernel_rfl) (by simp) ?_
    refine AllReadyH.cons rfl (fun K' hK => ?_) AllReadyH.nil
    rw [if_pos (by rfl)]
    simp only [gA, gS, gZ]
    go_wp2_with fail
    refine (KB1.out _).mono ?_
    rintro r ww ⟨rfl, rfl⟩
    try go_wp2_with fail
    refine hK.out _ _ (⟨hW, hB, C0, hC0, hR⟩) (fun hHeld => ?_)
    clear hK K'
    try simp only [Act.put, gA, gS, gZ, sA, sZ, sS]
    clear hW hB hC0 hR
    obtain ⟨hW, hB, C0, hC0, hR⟩ := id hHeld
    refine tk 4 (.int .i64 (f + B1)) rfl (.inl ⟨by rfl, ?_⟩) ?_
    · intro w9 hSw
      try dsimp only at hSw
      go_simp
      all_goals try (rw [wrapI64 _ (by omega) (by omega)])
      all_goals try decide
      all_goals try omega
    try simp only [Act.put, gA, gS, gZ, sA, sZ, sS]
    refine wpAnyH_ready (rs := [7]) (by kernel_rfl) (by simp) ?_
    refine AllReadyH.cons rfl (fun K' hK => ?_) AllReadyH.nil
    rw [if_pos (by rfl)]
    simp only [gA, gS, gZ]
    go_wp2_with fail
    refine (KP.out _).mono ?_
    rintro r ww ⟨rfl, v18_0, v18_1, v18_2, v18_3, v18_4, rfl⟩
    try go_wp2_with fail
    refine hK.out _ _ (⟨(Below.al (Below.al (Below.al (Below.al (Below.al hW _) _) _) _) _), (ext_al (ext_al (ext_al (ext_al (ext_al hB))))), C0, hC0, (ext_al (ext_al (ext_al (ext_al (ext_al hR)))))⟩) (fun hHeld => ?_)
    clear hK K'
    try simp only [Act.put, gA, gS, gZ, sA, sZ, sS]
    clear hW hB hC0 hR
    obtain ⟨hW, hB, C0, hC0, hR⟩ := id hHeld
    refine wpAnyH_ready (rs := [10]) (by kernel_rfl) (by simp) ?_
    refine AllReadyH.cons rfl (fun K' hK => ?_) AllReadyH.nil
    rw [if_pos (by rfl)]
    simp only [gA, gS, gZ]
    go_wp2_with fail
    refine (KQ.out _).mono ?_
    rintro r ww ⟨rfl, v19_0, v19_1, rfl⟩
    try go_wp2_with fail
    refine hK.out _ _ (⟨(Below.al (Below.al hW _) _), (ext_al (ext_al hB)), C0, hC0, (ext_al (ext_al hR))⟩) (fun hHeld => ?_)
    clear hK K'
    try simp only [Act.put, gA, gS, gZ, sA, sZ, sS]
    clear hW hB hC0 hR
    obtain ⟨hW, hB, C0, hC0, hR⟩ := id hHeld
    refine wpAnyH_ready (rs := [12]) (by kernel_rfl) (by simp) ?_
    refine AllReadyH.cons rfl (fun K' hK => ?_) AllReadyH.nil
    rw [if_pos (by rfl)]
    simp only [gA, gS, gZ]
    refine wp_store_by 31 (.tmp 4) (.tmp 96) rfl _ _ rfl rfl (store8 _ _ C0 x0 (i % 256) (i / 256) s y4 y5 y6 y7 _ hR hC0) ?_
    refine hK.out _ _ (⟨below_setRow hW (by omega) _, (setRow_other _ _ _ _ (by omega)).trans hB, _, rfl, setRow_heap _ _ _ _ _ _ hR⟩) (fun hHeld => ?_)
    clear hK K'
    try simp only [Act.put, gA, gS, gZ, sA, sZ, sS]
    refine tk 13 (.bool V) rfl (.inl ⟨by rfl, ?_⟩) ?_
    · intro w9 hSw
      try dsimp only at hSw
      go_simp
      all_goals try decide
      all_goals try assumption
      all_goals try omega
    try simp only [Act.put, gA, gS, gZ, sA, sZ, sS]
    refine wpAnyH_done (by kernel_rfl) ?_ _
    have hc := fun j => cell_of_row _ (w.heap.size + 1) j _ _ _ (setRow_heap _ _ _ (ar8 x0 (i % 256) (i / 256) s y4 y5 y6 y7) _ _ hR)
    have hb := below_setRow hW (Nat.le_succ w.heap.size) (ar8 x0 (i % 256) (i / 256) s y4 y5 y6 y7)
    clear hHeld hW hB hC0
    go_wp2_with fail
    refine bodyPost_ret (v := .tuple #[arr8 x0 (i % 256) (i / 256) s y4 y5 y6 y7, .bool V]) ?_ rfl ⟨⟨x0, (i % 256), (i / 256), s, y4, y5, y6, y7⟩, V, rfl, ?_, ?_⟩
    · simp [results, Try.results57, go_sem, hc]
    · exact hO.out
    · exact hb
#print axioms ropenSA
end Go.Proofs.Ytlnlejdjekbipaa
namespace Go.Proofs.Ytlnlejdjekbipaa
open Go.RowKit

set_option linter.unusedSimpArgs false in
set_option maxHeartbeats 4000000 in
set_option maxRecDepth 100000 in
theorem ropenSB (f : Int) (hf : f = 32 ∨ f = 64) (C : Cm) (ok : C.Ok) (hq : C.q = false) (hg0 : decide ((⟨C.k, C.i, C.s, C.z, C.n, C.q, C.d, false, false, false, 0, 0, 0, 0, 0⟩ : Cm) = C) = true ∧ C.d.length = 0) (a : Option Addr) (cap : Nat) (hl : C.d.length ≤ 1000) (w : World) (hr : Row w a C.d.length C.d) :
    Calls Try.prog 57 #[C.v a C.d.length cap, .int .i64 f] w (QPost w (wBegin f C)) := by
  obtain ⟨E, hE⟩ : ∃ E, decide ((⟨C.k, C.i, C.s, C.z, C.n, C.q, C.d, false, false, false, 0, 0, 0, 0, 0⟩ : Cm) = C) = E := ⟨_, rfl⟩
  rw [hE] at hg0
  have HS : Hid (∀ W, Below w.heap.size w W → Calls Try.prog 18 #[cmV C.k C.i C.s C.z C.n C.q a C.d.length cap false false false 0 0 0 0 0, cmV C.k C.i C.s C.z C.n C.q a C.d.length cap C.t C.l C.c C.b C.e C.u C.m C.o] W fun r w' => r = .returned (.bool E) ∧ ∃ o1 o2, w' = (W.alloc o1).alloc o2) := fun W hb => by
    have := same_any ⟨C.k, C.i, C.s, C.z, C.n, C.q, C.d, false, false, false, 0, 0, 0, 0, 0⟩ C a C.d.length cap a C.d.length cap W (hr.next hb) (hr.next hb)
    rw [hE] at this
    exact this
  obtain ⟨B1, hB1, lB1, gB1⟩ : ∃ y, bitn C.z 1 = y ∧ 0 ≤ y ∧ y ≤ 1 := ⟨_, rfl, by unfold bitn; split <;> omega, by unfold bitn; split <;> omega⟩
  have KB1 : Hid (∀ W, Calls Try.prog 34 #[.bool C.z, .int .i64 1] W fun e w' => e = .returned (.int .i64 B1) ∧ w' = W) := fun W => hB1 ▸ rbit_any C.z 1 W
  obtain ⟨x0, hx0⟩ : ∃ y, (f + B1 : Int) % 256 = y := ⟨_, rfl⟩
  have KP : Hid (∀ W, Calls Try.prog 59 #[.int .i64 (f + B1), .agg #[.int .u16 C.i, .int .u8 C.s]] W fun e w' => e = .returned (arr8 x0 (C.i % 256) (C.i / 256) C.s 0 0 0 0) ∧ ∃ o1 o2 o3 o4 o5, w' = ((((W.alloc o1).alloc o2).alloc o3).alloc o4).alloc o5) := fun W => hx0 ▸ placed_any (f + B1) C.i C.s ok.i W
  obtain ⟨y4, hy4⟩ : ∃ y, (C.n : Int) % 256 = y := ⟨_, rfl⟩
  obtain ⟨y5, hy5⟩ : ∃ y, (C.n : Int) / 256 % 256 = y := ⟨_, rfl⟩
  obtain ⟨y6, hy6⟩ : ∃ y, (C.n : Int) / 65536 % 256 = y := ⟨_, rfl⟩
  obtain ⟨y7, hy7⟩ : ∃ y, (C.n : Int) / 16777216 = y := ⟨_, rfl⟩
  have KQ : Hid (∀ W, Calls Try.prog 74 #[arr8 x0 (C.i % 256) (C.i / 256) C.s 0 0 0 0, .int .i64 4, .int .i64 4, .int .u32 C.n] W fun e w' => e = .returned (.agg (ar8 x0 (C.i % 256) (C.i / 256) C.s y4 y5 y6 y7)) ∧ ∃ o1 o2, w' = (W.alloc o1).alloc o2) := fun W => by rw [← hy4, ← hy5, ← hy6, ← hy7]; exact put44 _ _ _ _ _ _ _ _ _ ok.n W
  obtain ⟨V, hV⟩ : ∃ V, (E && decide (C.d.length = 0) && (C.z || C.n == 0)) = V := ⟨_, rfl⟩
  have hO : Hid (wBegin f C = if V then some ⟨x0, C.i % 256, C.i / 256, C.s, y4, y5, y6, y7⟩ else none) := by
    have e1 : V = (C.only 7 && (C.z || C.n == 0)) := by rw [← hV, ← bare_7 C hq, hE]
    have e3 : x0 = bits .or .u8 f (bitv C.z 1) := by rw [← hx0, ← hB1]; rcases hf with rfl | rfl <;> cases C.z <;> decide
    unfold wBegin
    rw [if_neg (by rw [hq]; decide), ← e1, e3, ← hy4, ← hy5, ← hy6, ← hy7]
    rfl
  have hi := ok.i
  have hf0 : 0 ≤ f := by omega
  have hf1 : f ≤ 64 := by omega
  have HV : Hid _ := hV
  have hg : Hid (E = true ∧ C.d.length = 0) := hg0
  clear hg0
  clear hB1 hx0 hE hV hf hy4 hy5 hy6 hy7
  generalize wBegin f C = O at hO ⊢
  clear hr ok
  generalize hlen : C.d.length = len at HS HV hl hg ⊢
  obtain ⟨k, i, s, z, n, q, d, t, l, c, b, e, u, m, o⟩ := C
  dsimp only at HS hO hi KB1 KP KQ HV hg hq ⊢
  subst hq
  clear hlen
  have hl' : (len : Int) ≤ 1000 := by omega
  go_enter Try.func57, Try.ntmps57
  go_upto_region 6 with fail
  go_cut [9] from 10 (fun sv wx => sv = .bool V ∧ ∃ o1 o2, wx = ((((w.alloc (.cells (cmC k i s z n false a len cap t l c b e u m o) 36)).alloc (.cells (ar8 0 0 0 0 0 0 0 0) 31)).alloc (.cells (cmC k i s z n false a len cap false false false 0 0 0 0 0) 36)).alloc o1).alloc o2)
  case first =>
    have e2 := HV.out
    obtain ⟨hg1, h0⟩ := hg.out
    clear hg
    subst hg1 h0
    cases z
    · by_cases h1 : n = 0
      · subst h1
        obtain rfl : true = V := by rw [← e2]; simp
        clear e2
        go_wp2_with fail
        with_reducible refine (HS.out _ (by repeat (first | assumption | exact Below.refl _ _ | apply Below.drew | apply Below.al))).mono ?_
        rintro r ww ⟨rfl, v1, v2, rfl⟩
        go_wp2_with fail
        go_meet
        exact ⟨rfl, _, _, rfl⟩
      · have hn0 : (n == 0) = false := by simpa using h1
        obtain rfl : false = V := by rw [← e2]; simp [h1]
        clear e2
        go_wp2_with fail
        with_reducible refine (HS.out _ (by repeat (first | assumption | exact Below.refl _ _ | apply Below.drew | apply Below.al))).mono ?_
        rintro r ww ⟨rfl, v1, v2, rfl⟩
        go_wp2_with fail
        go_meet
        exact ⟨rfl, _, _, rfl⟩
    · obtain rfl : true = V := by rw [← e2]; simp
      clear e2
      go_wp2_with fail
      with_reducible refine (HS.out _ (by repeat (first | assumption | exact Below.refl _ _ | apply Below.drew | apply Below.al))).mono ?_
      rintro r ww ⟨rfl, v1, v2, rfl⟩
      go_wp2_with fail
      go_meet
      exact ⟨rfl, _, _, rfl⟩
  case rest =>
    obtain ⟨rfl, p1, p2, rfl⟩ := hcut
    clear hg
    go_wp2_with fail
    refine wp_region_held_drew (S := fun x => Below w.heap.size w x ∧ x.heap[w.heap.size]? = some (.cells (cmC k i s z n false a len cap t l c b e u m o) 36 (0, 0)) ∧ ∃ C : Array Value, C.size = 8 ∧ x.heap[w.heap.size + 1]? = some (.cells C 31 (0, 0))) (by kernel_rfl) (⟨Below.drew (Below.al (Below.al (Below.al (Below.al (Below.al (Below.refl _ _) _) _) _) _) _), (heap_drew _ _).trans (ext_al (ext_al (ext_al (ext_al (heap_new _ _))))), ar8 0 0 0 0 0 0 0 0, rfl, (heap_drew _ _).trans (ext_al (ext_al (ext_al (heap_at _ _ _ (by simp)))))⟩) (fun hHeld => ?_)
    obtain ⟨hW, hB, C0, hC0, hR⟩ := id hHeld
    refine tk 0 (.int .i64 f) rfl (.inl ⟨by rfl, ?_⟩) ?_
    · intro w9 hSw
      try dsimp only at hSw
      go_simp
      all_goals try decide
      all_goals try assumption
      all_goals try omega
    try simp only [Act.put, gA, gS, gZ, sA, sZ, sS]
    refine tk 1 (.pointer (some ⟨w.heap.size, 3, none⟩)) rfl (.inl ⟨by rfl, ?_⟩) ?_
    · intro w9 hSw
      try dsimp only at hSw
      go_simp
      all_goals try decide
      all_goals try assumption
      all_goals try omega
    try simp only [Act.put, gA, gS, gZ, sA, sZ, sS]
    refine tk 2 (.bool z) rfl (.inl ⟨by rfl, ?_⟩) ?_
    · intro w9 hSw
      try dsimp only at hSw
      exact ex_load 4 (.tmp 87) rfl _ _ rfl (ld_4 _ _ _ _ (by rw [cell_of_row _ _ 3 _ _ _ hSw.2.1]; rfl))
    try simp only [Act.put, gA, gS, gZ, sA, sZ, sS]
    refine tk 5 (.pointer (some ⟨w.heap.size, 1, none⟩)) rfl (.inl ⟨by rfl, ?_⟩) ?_
    · intro w9 hSw
      try dsimp only at hSw
      go_simp
      all_goals try decide
      all_goals try assumption
      all_goals try omega
    try simp only [Act.put, gA, gS, gZ, sA, sZ, sS]
    refine tk 6 (.agg #[.int .u16 i, .int .u8 s]) rfl (.inl ⟨by rfl, ?_⟩) ?_
    · intro w9 hSw
      try dsimp only at hSw
      exact ex_load 24 (.tmp 91) rfl _ _ rfl (ldPl _ _ _ _ (by rw [cell_of_row _ _ 1 _ _ _ hSw.2.1]; rfl) (by rw [cell_of_row _ _ 2 _ _ _ hSw.2.1]; rfl))
    try simp only [Act.put, gA, gS, gZ, sA, sZ, sS]
    refine tk 8 (.pointer (some ⟨w.heap.size, 4, none⟩)) rfl (.inl ⟨by rfl, ?_⟩) ?_
    · intro w9 hSw
      try dsimp only at hSw
      go_simp
      all_goals try decide
      all_goals try assumption
      all_goals try omega
    try simp only [Act.put, gA, gS, gZ, sA, sZ, sS]
    refine tk 9 (.int .u32 n) rfl (.inl ⟨by rfl, ?_⟩) ?_
    · intro w9 hSw
      try dsimp only at hSw
      exact ex_load 25 (.tmp 94) rfl _ _ rfl (ld_25 _ _ _ _ (by rw [cell_of_row _ _ 4 _ _ _ hSw.2.1]; rfl))
    try simp only [Act.put, gA, gS, gZ, sA, sZ, sS]
    refine tk 11 (.bool V) rfl (.inl ⟨by rfl, ?_⟩) ?_
    · intro w9 hSw
      try dsimp only at hSw
      go_simp
      all_goals try decide
      all_goals try assumption
      all_goals try omega
    try simp only [Act.put, gA, gS, gZ, sA, sZ, sS]
    refine wpAnyH_ready (rs := [3]) (by kernel_rfl) (by simp) ?_
    refine AllReadyH.cons rfl (fun K' hK => ?_) AllReadyH.nil
    rw [if_pos (by rfl)]
    simp only [gA, gS, gZ]
    go_wp2_with fail
    refine (KB1.out _).mono ?_
    rintro r ww ⟨rfl, rfl⟩
    try go_wp2_with fail
    refine hK.out _ _ (⟨hW, hB, C0, hC0, hR⟩) (fun hHeld => ?_)
    clear hK K'
    try simp only [Act.put, gA, gS, gZ, sA, sZ, sS]
    clear hW hB hC0 hR
    obtain ⟨hW, hB, C0, hC0, hR⟩ := id hHeld
    refine tk 4 (.int .i64 (f + B1)) rfl (.inl ⟨by rfl, ?_⟩) ?_
    · intro w9 hSw
      try dsimp only at hSw
      go_simp
      all_goals try (rw [wrapI64 _ (by omega) (by omega)])
      all_goals try decide
      all_goals try omega
    try simp only [Act.put, gA, gS, gZ, sA, sZ, sS]
    refine wpAnyH_ready (rs := [7]) (by kernel_rfl) (by simp) ?_
    refine AllReadyH.cons rfl (fun K' hK => ?_) AllReadyH.nil
    rw [if_pos (by rfl)]
    simp only [gA, gS, gZ]
    go_wp2_with fail
    refine (KP.out _).mono ?_
    rintro r ww ⟨rfl, v20_0, v20_1, v20_2, v20_3, v20_4, rfl⟩
    try go_wp2_with fail
    refine hK.out _ _ (⟨(Below.al (Below.al (Below.al (Below.al (Below.al hW _) _) _) _) _), (ext_al (ext_al (ext_al (ext_al (ext_al hB))))), C0, hC0, (ext_al (ext_al (ext_al (ext_al (ext_al hR)))))⟩) (fun hHeld => ?_)
    clear hK K'
    try simp only [Act.put, gA, gS, gZ, sA, sZ, sS]
    clear hW hB hC0 hR
    obtain ⟨hW, hB, C0, hC0, hR⟩ := id hHeld
    refine wpAnyH_ready (rs := [10]) (by kernel_rfl) (by simp) ?_
    refine AllReadyH.cons rfl (fun K' hK => ?_) AllReadyH.nil
    rw [if_pos (by rfl)]
    simp only [gA, gS, gZ]
    go_wp2_with fail
    refine (KQ.out _).mono ?_
    rintro r ww ⟨rfl, v21_0, v21_1, rfl⟩
    try go_wp2_with fail
    refine hK.out _ _ (⟨(Below.al (Below.al hW _) _), (ext_al (ext_al hB)), C0, hC0, (ext_al (ext_al hR))⟩) (fun hHeld => ?_)
    clear hK K'
    try simp only [Act.put, gA, gS, gZ, sA, sZ, sS]
    clear hW hB hC0 hR
    obtain ⟨hW, hB, C0, hC0, hR⟩ := id hHeld
    refine wpAnyH_ready (rs := [12]) (by kernel_rfl) (by simp) ?_
    refine AllReadyH.cons rfl (fun K' hK => ?_) AllReadyH.nil
    rw [if_pos (by rfl)]
    simp only [gA, gS, gZ]
    refine wp_store_by 31 (.tmp 4) (.tmp 96) rfl _ _ rfl rfl (store8 _ _ C0 x0 (i % 256) (i / 256) s y4 y5 y6 y7 _ hR hC0) ?_
    refine hK.out _ _ (⟨below_setRow hW (by omega) _, (setRow_other _ _ _ _ (by omega)).trans hB, _, rfl, setRow_heap _ _ _ _ _ _ hR⟩) (fun hHeld => ?_)
    clear hK K'
    try simp only [Act.put, gA, gS, gZ, sA, sZ, sS]
    refine tk 13 (.bool V) rfl (.inl ⟨by rfl, ?_⟩) ?_
    · intro w9 hSw
      try dsimp only at hSw
      go_simp
      all_goals try decide
      all_goals try assumption
      all_goals try omega
    try simp only [Act.put, gA, gS, gZ, sA, sZ, sS]
    refine wpAnyH_done (by kernel_rfl) ?_ _
    have hc := fun j => cell_of_row _ (w.heap.size + 1) j _ _ _ (setRow_heap _ _ _ (ar8 x0 (i % 256) (i / 256) s y4 y5 y6 y7) _ _ hR)
    have hb := below_setRow hW (Nat.le_succ w.heap.size) (ar8 x0 (i % 256) (i / 256) s y4 y5 y6 y7)
    clear hHeld hW hB hC0
    go_wp2_with fail
    refine bodyPost_ret (v := .tuple #[arr8 x0 (i % 256) (i / 256) s y4 y5 y6 y7, .bool V]) ?_ rfl ⟨⟨x0, (i % 256), (i / 256), s, y4, y5, y6, y7⟩, V, rfl, ?_, ?_⟩
    · simp [results, Try.results57, go_sem, hc]
    · exact hO.out
    · exact hb
#print axioms ropenSB
end Go.Proofs.Ytlnlejdjekbipaa
