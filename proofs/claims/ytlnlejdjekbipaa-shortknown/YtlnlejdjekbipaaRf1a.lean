/-
  The walk of the document's opening, in one frame.
  The walk of the document's opening, in one frame.
  The walk of the document's opening, in one frame.
-/
import Derived.Test.YtlnlejdjekbipaaRf
import Derived.Deep.DeepCutAuto
import Derived.Test.YtlnlejdjekbipaaTk9
namespace Go.Proofs.Ytlnlejdjekbipaa
open Go.RowKit

set_option linter.unusedSimpArgs false in
set_option maxHeartbeats 4000000 in
set_option maxRecDepth 100000 in
theorem ropenQA (f : Int) (hf : f = 32 ∨ f = 64) (C : Cm) (ok : C.Ok) (hq : C.q = true) (hg0 : decide ((⟨C.k, C.i, C.s, C.z, C.n, C.q, C.d, false, false, false, 0, 0, 0, 0, 0⟩ : Cm) = C) = false ∨ ¬ C.n = 0) (a : Option Addr) (cap : Nat) (hl : C.d.length ≤ 1000) (w : World) (hr : Row w a C.d.length C.d) :
    Calls Try.prog 57 #[C.v a C.d.length cap, .int .i64 f] w (QPost w (wBegin f C)) := by
  obtain ⟨E, hE⟩ : ∃ E, decide ((⟨C.k, C.i, C.s, C.z, C.n, C.q, C.d, false, false, false, 0, 0, 0, 0, 0⟩ : Cm) = C) = E := ⟨_, rfl⟩
  rw [hE] at hg0
  have HS : Hid (∀ W, Below w.heap.size w W → Calls Try.prog 18 #[cmV C.k C.i C.s C.z C.n C.q a C.d.length cap false false false 0 0 0 0 0, cmV C.k C.i C.s C.z C.n C.q a C.d.length cap C.t C.l C.c C.b C.e C.u C.m C.o] W fun r w' => r = .returned (.bool E) ∧ ∃ o1 o2, w' = (W.alloc o1).alloc o2) := fun W hb => by
    have := same_any ⟨C.k, C.i, C.s, C.z, C.n, C.q, C.d, false, false, false, 0, 0, 0, 0, 0⟩ C a C.d.length cap a C.d.length cap W (hr.next hb) (hr.next hb)
    rw [hE] at this
    exact this
  obtain ⟨mn, hmn, lmn, gmn⟩ : ∃ y, min (C.d.length : Int) 4 = y ∧ 0 ≤ y ∧ y ≤ 4 := ⟨_, rfl, by omega, by omega⟩
  obtain ⟨B1, hB1, lB1, gB1⟩ : ∃ y, bitn C.z (1 + 4 * (4 - mn)) = y ∧ 0 ≤ y ∧ y ≤ 17 := ⟨_, rfl, by unfold bitn; split <;> omega, by unfold bitn; split <;> omega⟩
  have KB1 : Hid (∀ W, Calls Try.prog 34 #[.bool C.z, .int .i64 (1 + 4 * (4 - mn))] W fun e w' => e = .returned (.int .i64 B1) ∧ w' = W) := fun W => hB1 ▸ rbit_any C.z (1 + 4 * (4 - mn)) W
  obtain ⟨x0, hx0⟩ : ∃ y, (f + 2 + B1 : Int) % 256 = y := ⟨_, rfl⟩
  have KP : Hid (∀ W, Calls Try.prog 59 #[.int .i64 (f + 2 + B1), .agg #[.int .u16 C.i, .int .u8 C.s]] W fun e w' => e = .returned (arr8 x0 (C.i % 256) (C.i / 256) C.s 0 0 0 0) ∧ ∃ o1 o2 o3 o4 o5, w' = ((((W.alloc o1).alloc o2).alloc o3).alloc o4).alloc o5) := fun W => hx0 ▸ placed_any (f + 2 + B1) C.i C.s ok.i W
  have FL : Hid (∀ W, Below w.heap.size w W → Calls Try.prog 32 #[arr8 x0 (C.i % 256) (C.i / 256) C.s 0 0 0 0, .int .i64 4, .slice a C.d.length cap] W fun e w' => e = .returned (.agg (ar8 x0 (C.i % 256) (C.i / 256) C.s (zb C.d 0) (zb C.d 1) (zb C.d 2) (zb C.d 3))) ∧ ∃ o1 o2, w' = (W.alloc o1).alloc o2) := fun W hb => filled4 _ _ _ _ a C.d.length cap C.d hl W (hr.next hb)
  obtain ⟨V, hV⟩ : ∃ V, (E && (C.n == 0) && decide (1 ≤ C.d.length) && decide (C.d.length ≤ 4) && (C.z || decide (C.d.length = 4))) = V := ⟨_, rfl⟩
  have hO : Hid (wBegin f C = if V then some ⟨x0, C.i % 256, C.i / 256, C.s, zb C.d 0, zb C.d 1, zb C.d 2, zb C.d 3⟩ else none) := by
    have e1 : V = (C.only 27 && quickOk C.z C.d.length) := by
      rw [← hV, ← bare_27, hE, Bool.eq_iff_iff]
      simp only [quickOk, Bool.and_eq_true, Bool.or_eq_true, decide_eq_true_iff, beq_iff_eq]
      constructor
      · rintro ⟨⟨⟨⟨h1, h2⟩, h3⟩, h4⟩, h5⟩
        exact ⟨⟨h1, h2⟩, by rcases h5 with h5 | h5 <;> by_cases h6 : C.d.length = 4 <;> first | exact .inl h6 | exact .inr ⟨h5, h3, by omega⟩ | exact .inl h5⟩
      · rintro ⟨⟨h1, h2⟩, h5⟩
        exact ⟨⟨⟨⟨h1, h2⟩, by omega⟩, by omega⟩, by rcases h5 with h5 | h5 <;> first | exact .inr h5 | exact .inl h5.1⟩
    unfold wBegin
    rw [if_pos hq, ← e1]
    cases V
    · rfl
    · have h2 : quickOk C.z C.d.length = true := by simp only [Bool.true_eq, Bool.and_eq_true] at e1; exact e1.2
      rw [← q0_doc f hf C.z C.d.length h2, hmn, hB1, hx0]; rfl
  have hi := ok.i
  have hf0 : 0 ≤ f := by omega
  have hf1 : f ≤ 64 := by omega
  have HV : Hid _ := hV
  have Hmn : Hid _ := hmn
  have hg : Hid (E = false ∨ ¬ C.n = 0) := hg0
  clear hg0
  clear hB1 hx0 hE hV hf hmn
  generalize wBegin f C = O at hO ⊢
  clear hr ok
  generalize hlen : C.d.length = len at HS FL HV Hmn hl ⊢
  obtain ⟨k, i, s, z, n, q, d, t, l, c, b, e, u, m, o⟩ := C
  dsimp only at HS hO hi KB1 KP FL HV hg hq ⊢
  subst hq
  clear hlen
  have hl' : (len : Int) ≤ 1000 := by omega
  go_enter Try.func57, Try.ntmps57
  go_upto_region 4 with fail
  go_cut [8] from 10 (fun sv wx => sv = .bool V ∧ ∃ o1 o2, wx = ((((w.alloc (.cells (cmC k i s z n true a len cap t l c b e u m o) 36)).alloc (.cells (ar8 0 0 0 0 0 0 0 0) 31)).alloc (.cells (cmC k i s z n true a len cap false false false 0 0 0 0 0) 36)).alloc o1).alloc o2)
  case first =>
    have e2 := HV.out
    cases E
    · obtain rfl : false = V := by simpa using e2
      clear e2
      go_wp2_with fail
      with_reducible refine (HS.out _ (by repeat (first | assumption | exact Below.refl _ _ | apply Below.drew | apply Below.al))).mono ?_
      rintro r ww ⟨rfl, v1, v2, rfl⟩
      go_wp2_with fail
      go_meet
      exact ⟨rfl, _, _, rfl⟩
    have h0 : ¬ n = 0 := by have := hg.out; simpa using this
    clear hg
    have hn0 : (n == 0) = false := by simpa using h0
    obtain rfl : false = V := by rw [← e2]; simp [h0]
    clear e2
    go_wp2_with fail
    with_reducible refine (HS.out _ (by repeat (first | assumption | exact Below.refl _ _ | apply Below.drew | apply Below.al))).mono ?_
    rintro r ww ⟨rfl, v1, v2, rfl⟩
    go_wp2_with fail
    go_meet
    exact ⟨rfl, _, _, rfl⟩
  case rest =>
    obtain ⟨rfl, p1, p2, rfl⟩ := hcut
    go_wp2_with fail
    refine wp_region_held_drew (S := fun x => Below w.heap.size w x ∧ x.heap[w.heap.size]? = some (.cells (cmC k i s z n true a len cap t l c b e u m o) 36 (0, 0)) ∧ ∃ C : Array Value, C.size = 8 ∧ x.heap[w.heap.size + 1]? = some (.cells C 31 (0, 0))) (by kernel_rfl) (⟨Below.drew (Below.al (Below.al (Below.al (Below.al (Below.al (Below.refl _ _) _) _) _) _) _), (heap_drew _ _).trans (ext_al (ext_al (ext_al (ext_al (heap_new _ _))))), ar8 0 0 0 0 0 0 0 0, rfl, (heap_drew _ _).trans (ext_al (ext_al (ext_al (heap_at _ _ _ (by simp)))))⟩) (fun hHeld => ?_)
    obtain ⟨hW, hB, C0, hC0, hR⟩ := id hHeld
    refine tk 0 (.int .i64 f) rfl (.inl ⟨by rfl, ?_⟩) ?_
    · intro w9 hSw
      try dsimp only at hSw
      go_simp
      all_goals try decide
      all_goals try assumption
      all_goals try omega
    try simp only [Act.put, gA, gS, gZ, sA, sZ, sS]
    refine tk 1 (.int .i64 (f + 2)) rfl (.inl ⟨by rfl, ?_⟩) ?_
    · intro w9 hSw
      try dsimp only at hSw
      go_simp
      all_goals try (rw [wrapI64 _ (by omega) (by omega)])
      all_goals try decide
      all_goals try omega
    try simp only [Act.put, gA, gS, gZ, sA, sZ, sS]
    refine tk 2 (.pointer (some ⟨w.heap.size, 3, none⟩)) rfl (.inl ⟨by rfl, ?_⟩) ?_
    · intro w9 hSw
      try dsimp only at hSw
      go_simp
      all_goals try decide
      all_goals try assumption
      all_goals try omega
    try simp only [Act.put, gA, gS, gZ, sA, sZ, sS]
    refine tk 3 (.bool z) rfl (.inl ⟨by rfl, ?_⟩) ?_
    · intro w9 hSw
      try dsimp only at hSw
      exact ex_load 4 (.tmp 54) rfl _ _ rfl (ld_4 _ _ _ _ (by rw [cell_of_row _ _ 3 _ _ _ hSw.2.1]; rfl))
    try simp only [Act.put, gA, gS, gZ, sA, sZ, sS]
    refine tk 4 (.int .i64 (len : Int)) rfl (.inl ⟨by rfl, ?_⟩) ?_
    · intro w9 hSw
      try dsimp only at hSw
      go_simp
      all_goals try decide
      all_goals try assumption
      all_goals try omega
    try simp only [Act.put, gA, gS, gZ, sA, sZ, sS]
    refine tk 5 (.int .i64 mn) rfl (.inl ⟨by rfl, ?_⟩) ?_
    · intro w9 hSw
      try dsimp only at hSw
      go_simp
      all_goals (first | (have := Hmn.out; omega) | (simp only [← Hmn.out]; done) | skip)
    try simp only [Act.put, gA, gS, gZ, sA, sZ, sS]
    refine tk 6 (.int .i64 (4 - mn)) rfl (.inl ⟨by rfl, ?_⟩) ?_
    · intro w9 hSw
      try dsimp only at hSw
      go_simp
      all_goals try (rw [wrapI64 _ (by omega) (by omega)])
      all_goals try decide
      all_goals try omega
    try simp only [Act.put, gA, gS, gZ, sA, sZ, sS]
    refine tk 7 (.int .i64 (4 * (4 - mn))) rfl (.inl ⟨by rfl, ?_⟩) ?_
    · intro w9 hSw
      try dsimp only at hSw
      go_simp
      all_goals try (rw [wrapI64 _ (by omega) (by omega)])
      all_goals try decide
      all_goals try omega
    try simp only [Act.put, gA, gS, gZ, sA, sZ, sS]
    refine tk 8 (.int .i64 (1 + 4 * (4 - mn))) rfl (.inl ⟨by rfl, ?_⟩) ?_
    · intro w9 hSw
      try dsimp only at hSw
      go_simp
      all_goals try (rw [wrapI64 _ (by omega) (by omega)])
      all_goals try decide
      all_goals try omega
    try simp only [Act.put, gA, gS, gZ, sA, sZ, sS]
    refine tk 11 (.pointer (some ⟨w.heap.size, 1, none⟩)) rfl (.inl ⟨by rfl, ?_⟩) ?_
    · intro w9 hSw
      try dsimp only at hSw
      go_simp
      all_goals try decide
      all_goals try assumption
      all_goals try omega
    try simp only [Act.put, gA, gS, gZ, sA, sZ, sS]
    refine tk 12 (.agg #[.int .u16 i, .int .u8 s]) rfl (.inl ⟨by rfl, ?_⟩) ?_
    · intro w9 hSw
      try dsimp only at hSw
      exact ex_load 24 (.tmp 63) rfl _ _ rfl (ldPl _ _ _ _ (by rw [cell_of_row _ _ 1 _ _ _ hSw.2.1]; rfl) (by rw [cell_of_row _ _ 2 _ _ _ hSw.2.1]; rfl))
    try simp only [Act.put, gA, gS, gZ, sA, sZ, sS]
    refine tk 14 (.pointer (some ⟨w.heap.size, 6, none⟩)) rfl (.inl ⟨by rfl, ?_⟩) ?_
    · intro w9 hSw
      try dsimp only at hSw
      go_simp
      all_goals try decide
      all_goals try assumption
      all_goals try omega
    try simp only [Act.put, gA, gS, gZ, sA, sZ, sS]
    refine tk 15 (.slice a len cap) rfl (.inl ⟨by rfl, ?_⟩) ?_
    · intro w9 hSw
      try dsimp only at hSw
      exact ex_load 26 (.tmp 66) rfl _ _ rfl (ld_26 _ _ _ _ (by rw [cell_of_row _ _ 6 _ _ _ hSw.2.1]; rfl))
    try simp only [Act.put, gA, gS, gZ, sA, sZ, sS]
    refine tk 17 (.bool V) rfl (.inl ⟨by rfl, ?_⟩) ?_
    · intro w9 hSw
      try dsimp only at hSw
      go_simp
      all_goals try decide
      all_goals try assumption
      all_goals try omega
    try simp only [Act.put, gA, gS, gZ, sA, sZ, sS]
    refine wpAnyH_ready (rs := [9]) (by kernel_rfl) (by simp) ?_
    refine AllReadyH.cons rfl (fun K' hK => ?_) AllReadyH.nil
    rw [if_pos (by rfl)]
    simp only [gA, gS, gZ]
    go_wp2_with fail
    refine (KB1.out _).mono ?_
    rintro r ww ⟨rfl, rfl⟩
    try go_wp2_with fail
    refine hK.out _ _ (⟨hW, hB, C0, hC0, hR⟩) (fun hHeld => ?_)
    clear hK K'
    try simp only [Act.put, gA, gS, gZ, sA, sZ, sS]
    clear hW hB hC0 hR
    obtain ⟨hW, hB, C0, hC0, hR⟩ := id hHeld
    refine tk 10 (.int .i64 (f + 2 + B1)) rfl (.inl ⟨by rfl, ?_⟩) ?_
    · intro w9 hSw
      try dsimp only at hSw
      go_simp
      all_goals try (rw [wrapI64 _ (by omega) (by omega)])
      all_goals try decide
      all_goals try omega
    try simp only [Act.put, gA, gS, gZ, sA, sZ, sS]
    refine wpAnyH_ready (rs := [13]) (by kernel_rfl) (by simp) ?_
    refine AllReadyH.cons rfl (fun K' hK => ?_) AllReadyH.nil
    rw [if_pos (by rfl)]
    simp only [gA, gS, gZ]
    go_wp2_with fail
    refine (KP.out _).mono ?_
    rintro r ww ⟨rfl, v12_0, v12_1, v12_2, v12_3, v12_4, rfl⟩
    try go_wp2_with fail
    refine hK.out _ _ (⟨(Below.al (Below.al (Below.al (Below.al (Below.al hW _) _) _) _) _), (ext_al (ext_al (ext_al (ext_al (ext_al hB))))), C0, hC0, (ext_al (ext_al (ext_al (ext_al (ext_al hR)))))⟩) (fun hHeld => ?_)
    clear hK K'
    try simp only [Act.put, gA, gS, gZ, sA, sZ, sS]
    clear hW hB hC0 hR
    obtain ⟨hW, hB, C0, hC0, hR⟩ := id hHeld
    refine wpAnyH_ready (rs := [16]) (by kernel_rfl) (by simp) ?_
    refine AllReadyH.cons rfl (fun K' hK => ?_) AllReadyH.nil
    rw [if_pos (by rfl)]
    simp only [gA, gS, gZ]
    go_wp2_with fail
    refine (FL.out _ hW).mono ?_
    rintro r ww ⟨rfl, v13_0, v13_1, rfl⟩
    try go_wp2_with fail
    refine hK.out _ _ (⟨(Below.al (Below.al hW _) _), (ext_al (ext_al hB)), C0, hC0, (ext_al (ext_al hR))⟩) (fun hHeld => ?_)
    clear hK K'
    try simp only [Act.put, gA, gS, gZ, sA, sZ, sS]
    clear hW hB hC0 hR
    obtain ⟨hW, hB, C0, hC0, hR⟩ := id hHeld
    refine wpAnyH_ready (rs := [18]) (by kernel_rfl) (by simp) ?_
    refine AllReadyH.cons rfl (fun K' hK => ?_) AllReadyH.nil
    rw [if_pos (by rfl)]
    simp only [gA, gS, gZ]
    refine wp_store_by 31 (.tmp 4) (.tmp 68) rfl _ _ rfl rfl (store8 _ _ C0 x0 (i % 256) (i / 256) s (zb d 0) (zb d 1) (zb d 2) (zb d 3) _ hR hC0) ?_
    refine hK.out _ _ (⟨below_setRow hW (by omega) _, (setRow_other _ _ _ _ (by omega)).trans hB, _, rfl, setRow_heap _ _ _ _ _ _ hR⟩) (fun hHeld => ?_)
    clear hK K'
    try simp only [Act.put, gA, gS, gZ, sA, sZ, sS]
    refine tk 19 (.bool V) rfl (.inl ⟨by rfl, ?_⟩) ?_
    · intro w9 hSw
      try dsimp only at hSw
      go_simp
      all_goals try decide
      all_goals try assumption
      all_goals try omega
    try simp only [Act.put, gA, gS, gZ, sA, sZ, sS]
    refine wpAnyH_done (by kernel_rfl) ?_ _
    have hc := fun j => cell_of_row _ (w.heap.size + 1) j _ _ _ (setRow_heap _ _ _ (ar8 x0 (i % 256) (i / 256) s (zb d 0) (zb d 1) (zb d 2) (zb d 3)) _ _ hR)
    have hb := below_setRow hW (Nat.le_succ w.heap.size) (ar8 x0 (i % 256) (i / 256) s (zb d 0) (zb d 1) (zb d 2) (zb d 3))
    clear hHeld hW hB hC0
    go_wp2_with fail
    refine bodyPost_ret (v := .tuple #[arr8 x0 (i % 256) (i / 256) s (zb d 0) (zb d 1) (zb d 2) (zb d 3), .bool V]) ?_ rfl ⟨⟨x0, (i % 256), (i / 256), s, (zb d 0), (zb d 1), (zb d 2), (zb d 3)⟩, V, rfl, ?_, ?_⟩
    · simp [results, Try.results57, go_sem, hc]
    · exact hO.out
    · exact hb
#print axioms ropenQA
end Go.Proofs.Ytlnlejdjekbipaa
namespace Go.Proofs.Ytlnlejdjekbipaa
open Go.RowKit

set_option linter.unusedSimpArgs false in
set_option maxHeartbeats 4000000 in
set_option maxRecDepth 100000 in
theorem ropenQB (f : Int) (hf : f = 32 ∨ f = 64) (C : Cm) (ok : C.Ok) (hq : C.q = true) (hg0 : decide ((⟨C.k, C.i, C.s, C.z, C.n, C.q, C.d, false, false, false, 0, 0, 0, 0, 0⟩ : Cm) = C) = true ∧ C.n = 0 ∧ ¬ (1 ≤ C.d.length ∧ C.d.length ≤ 4)) (a : Option Addr) (cap : Nat) (hl : C.d.length ≤ 1000) (w : World) (hr : Row w a C.d.length C.d) :
    Calls Try.prog 57 #[C.v a C.d.length cap, .int .i64 f] w (QPost w (wBegin f C)) := by
  obtain ⟨E, hE⟩ : ∃ E, decide ((⟨C.k, C.i, C.s, C.z, C.n, C.q, C.d, false, false, false, 0, 0, 0, 0, 0⟩ : Cm) = C) = E := ⟨_, rfl⟩
  rw [hE] at hg0
  have HS : Hid (∀ W, Below w.heap.size w W → Calls Try.prog 18 #[cmV C.k C.i C.s C.z C.n C.q a C.d.length cap false false false 0 0 0 0 0, cmV C.k C.i C.s C.z C.n C.q a C.d.length cap C.t C.l C.c C.b C.e C.u C.m C.o] W fun r w' => r = .returned (.bool E) ∧ ∃ o1 o2, w' = (W.alloc o1).alloc o2) := fun W hb => by
    have := same_any ⟨C.k, C.i, C.s, C.z, C.n, C.q, C.d, false, false, false, 0, 0, 0, 0, 0⟩ C a C.d.length cap a C.d.length cap W (hr.next hb) (hr.next hb)
    rw [hE] at this
    exact this
  obtain ⟨mn, hmn, lmn, gmn⟩ : ∃ y, min (C.d.length : Int) 4 = y ∧ 0 ≤ y ∧ y ≤ 4 := ⟨_, rfl, by omega, by omega⟩
  obtain ⟨B1, hB1, lB1, gB1⟩ : ∃ y, bitn C.z (1 + 4 * (4 - mn)) = y ∧ 0 ≤ y ∧ y ≤ 17 := ⟨_, rfl, by unfold bitn; split <;> omega, by unfold bitn; split <;> omega⟩
  have KB1 : Hid (∀ W, Calls Try.prog 34 #[.bool C.z, .int .i64 (1 + 4 * (4 - mn))] W fun e w' => e = .returned (.int .i64 B1) ∧ w' = W) := fun W => hB1 ▸ rbit_any C.z (1 + 4 * (4 - mn)) W
  obtain ⟨x0, hx0⟩ : ∃ y, (f + 2 + B1 : Int) % 256 = y := ⟨_, rfl⟩
  have KP : Hid (∀ W, Calls Try.prog 59 #[.int .i64 (f + 2 + B1), .agg #[.int .u16 C.i, .int .u8 C.s]] W fun e w' => e = .returned (arr8 x0 (C.i % 256) (C.i / 256) C.s 0 0 0 0) ∧ ∃ o1 o2 o3 o4 o5, w' = ((((W.alloc o1).alloc o2).alloc o3).alloc o4).alloc o5) := fun W => hx0 ▸ placed_any (f + 2 + B1) C.i C.s ok.i W
  have FL : Hid (∀ W, Below w.heap.size w W → Calls Try.prog 32 #[arr8 x0 (C.i % 256) (C.i / 256) C.s 0 0 0 0, .int .i64 4, .slice a C.d.length cap] W fun e w' => e = .returned (.agg (ar8 x0 (C.i % 256) (C.i / 256) C.s (zb C.d 0) (zb C.d 1) (zb C.d 2) (zb C.d 3))) ∧ ∃ o1 o2, w' = (W.alloc o1).alloc o2) := fun W hb => filled4 _ _ _ _ a C.d.length cap C.d hl W (hr.next hb)
  obtain ⟨V, hV⟩ : ∃ V, (E && (C.n == 0) && decide (1 ≤ C.d.length) && decide (C.d.length ≤ 4) && (C.z || decide (C.d.length = 4))) = V := ⟨_, rfl⟩
  have hO : Hid (wBegin f C = if V then some ⟨x0, C.i % 256, C.i / 256, C.s, zb C.d 0, zb C.d 1, zb C.d 2, zb C.d 3⟩ else none) := by
    have e1 : V = (C.only 27 && quickOk C.z C.d.length) := by
      rw [← hV, ← bare_27, hE, Bool.eq_iff_iff]
      simp only [quickOk, Bool.and_eq_true, Bool.or_eq_true, decide_eq_true_iff, beq_iff_eq]
      constructor
      · rintro ⟨⟨⟨⟨h1, h2⟩, h3⟩, h4⟩, h5⟩
        exact ⟨⟨h1, h2⟩, by rcases h5 with h5 | h5 <;> by_cases h6 : C.d.length = 4 <;> first | exact .inl h6 | exact .inr ⟨h5, h3, by omega⟩ | exact .inl h5⟩
      · rintro ⟨⟨h1, h2⟩, h5⟩
        exact ⟨⟨⟨⟨h1, h2⟩, by omega⟩, by omega⟩, by rcases h5 with h5 | h5 <;> first | exact .inr h5 | exact .inl h5.1⟩
    unfold wBegin
    rw [if_pos hq, ← e1]
    cases V
    · rfl
    · have h2 : quickOk C.z C.d.length = true := by simp only [Bool.true_eq, Bool.and_eq_true] at e1; exact e1.2
      rw [← q0_doc f hf C.z C.d.length h2, hmn, hB1, hx0]; rfl
  have hi := ok.i
  have hf0 : 0 ≤ f := by omega
  have hf1 : f ≤ 64 := by omega
  have HV : Hid _ := hV
  have Hmn : Hid _ := hmn
  have hg : Hid (E = true ∧ C.n = 0 ∧ ¬ (1 ≤ C.d.length ∧ C.d.length ≤ 4)) := hg0
  clear hg0
  clear hB1 hx0 hE hV hf hmn
  generalize wBegin f C = O at hO ⊢
  clear hr ok
  generalize hlen : C.d.length = len at HS FL HV Hmn hl hg ⊢
  obtain ⟨k, i, s, z, n, q, d, t, l, c, b, e, u, m, o⟩ := C
  dsimp only at HS hO hi KB1 KP FL HV hg hq ⊢
  subst hq
  clear hlen
  have hl' : (len : Int) ≤ 1000 := by omega
  go_enter Try.func57, Try.ntmps57
  go_upto_region 4 with fail
  go_cut [8] from 10 (fun sv wx => sv = .bool V ∧ ∃ o1 o2, wx = ((((w.alloc (.cells (cmC k i s z n true a len cap t l c b e u m o) 36)).alloc (.cells (ar8 0 0 0 0 0 0 0 0) 31)).alloc (.cells (cmC k i s z n true a len cap false false false 0 0 0 0 0) 36)).alloc o1).alloc o2)
  case first =>
    have e2 := HV.out
    obtain ⟨hg1, h0, hg2⟩ := hg.out
    clear hg
    subst hg1 h0
    by_cases h1 : 1 ≤ len
    · have h4 : ¬ len ≤ 4 := fun h => hg2 ⟨h1, h⟩
      clear hg2
      obtain rfl : false = V := by rw [← e2]; simp [h4]
      clear e2
      have b1 : 1 ≤ (len : Int) := by omega
      have b4 : ¬ (len : Int) ≤ 4 := by omega
      go_wp2_with fail
      with_reducible refine (HS.out _ (by repeat (first | assumption | exact Below.refl _ _ | apply Below.drew | apply Below.al))).mono ?_
      rintro r ww ⟨rfl, v1, v2, rfl⟩
      go_wp2_with fail
      go_meet
      exact ⟨rfl, _, _, rfl⟩
    · clear hg2
      obtain rfl : false = V := by rw [← e2]; simp [h1]
      clear e2
      have b1 : ¬ 1 ≤ (len : Int) := by omega
      go_wp2_with fail
      with_reducible refine (HS.out _ (by repeat (first | assumption | exact Below.refl _ _ | apply Below.drew | apply Below.al))).mono ?_
      rintro r ww ⟨rfl, v1, v2, rfl⟩
      go_wp2_with fail
      go_meet
      exact ⟨rfl, _, _, rfl⟩
  case rest =>
    obtain ⟨rfl, p1, p2, rfl⟩ := hcut
    go_wp2_with fail
    refine wp_region_held_drew (S := fun x => Below w.heap.size w x ∧ x.heap[w.heap.size]? = some (.cells (cmC k i s z n true a len cap t l c b e u m o) 36 (0, 0)) ∧ ∃ C : Array Value, C.size = 8 ∧ x.heap[w.heap.size + 1]? = some (.cells C 31 (0, 0))) (by kernel_rfl) (⟨Below.drew (Below.al (Below.al (Below.al (Below.al (Below.al (Below.refl _ _) _) _) _) _) _), (heap_drew _ _).trans (ext_al (ext_al (ext_al (ext_al (heap_new _ _))))), ar8 0 0 0 0 0 0 0 0, rfl, (heap_drew _ _).trans (ext_al (ext_al (ext_al (heap_at _ _ _ (by simp)))))⟩) (fun hHeld => ?_)
    obtain ⟨hW, hB, C0, hC0, hR⟩ := id hHeld
    refine tk 0 (.int .i64 f) rfl (.inl ⟨by rfl, ?_⟩) ?_
    · intro w9 hSw
      try dsimp only at hSw
      go_simp
      all_goals try decide
      all_goals try assumption
      all_goals try omega
    try simp only [Act.put, gA, gS, gZ, sA, sZ, sS]
    refine tk 1 (.int .i64 (f + 2)) rfl (.inl ⟨by rfl, ?_⟩) ?_
    · intro w9 hSw
      try dsimp only at hSw
      go_simp
      all_goals try (rw [wrapI64 _ (by omega) (by omega)])
      all_goals try decide
      all_goals try omega
    try simp only [Act.put, gA, gS, gZ, sA, sZ, sS]
    refine tk 2 (.pointer (some ⟨w.heap.size, 3, none⟩)) rfl (.inl ⟨by rfl, ?_⟩) ?_
    · intro w9 hSw
      try dsimp only at hSw
      go_simp
      all_goals try decide
      all_goals try assumption
      all_goals try omega
    try simp only [Act.put, gA, gS, gZ, sA, sZ, sS]
    refine tk 3 (.bool z) rfl (.inl ⟨by rfl, ?_⟩) ?_
    · intro w9 hSw
      try dsimp only at hSw
      exact ex_load 4 (.tmp 54) rfl _ _ rfl (ld_4 _ _ _ _ (by rw [cell_of_row _ _ 3 _ _ _ hSw.2.1]; rfl))
    try simp only [Act.put, gA, gS, gZ, sA, sZ, sS]
    refine tk 4 (.int .i64 (len : Int)) rfl (.inl ⟨by rfl, ?_⟩) ?_
    · intro w9 hSw
      try dsimp only at hSw
      go_simp
      all_goals try decide
      all_goals try assumption
      all_goals try omega
    try simp only [Act.put, gA, gS, gZ, sA, sZ, sS]
    refine tk 5 (.int .i64 mn) rfl (.inl ⟨by rfl, ?_⟩) ?_
    · intro w9 hSw
      try dsimp only at hSw
      go_simp
      all_goals (first | (have := Hmn.out; omega) | (simp only [← Hmn.out]; done) | skip)
    try simp only [Act.put, gA, gS, gZ, sA, sZ, sS]
    refine tk 6 (.int .i64 (4 - mn)) rfl (.inl ⟨by rfl, ?_⟩) ?_
    · intro w9 hSw
      try dsimp only at hSw
      go_simp
      all_goals try (rw [wrapI64 _ (by omega) (by omega)])
      all_goals try decide
      all_goals try omega
    try simp only [Act.put, gA, gS, gZ, sA, sZ, sS]
    refine tk 7 (.int .i64 (4 * (4 - mn))) rfl (.inl ⟨by rfl, ?_⟩) ?_
    · intro w9 hSw
      try dsimp only at hSw
      go_simp
      all_goals try (rw [wrapI64 _ (by omega) (by omega)])
      all_goals try decide
      all_goals try omega
    try simp only [Act.put, gA, gS, gZ, sA, sZ, sS]
    refine tk 8 (.int .i64 (1 + 4 * (4 - mn))) rfl (.inl ⟨by rfl, ?_⟩) ?_
    · intro w9 hSw
      try dsimp only at hSw
      go_simp
      all_goals try (rw [wrapI64 _ (by omega) (by omega)])
      all_goals try decide
      all_goals try omega
    try simp only [Act.put, gA, gS, gZ, sA, sZ, sS]
    refine tk 11 (.pointer (some ⟨w.heap.size, 1, none⟩)) rfl (.inl ⟨by rfl, ?_⟩) ?_
    · intro w9 hSw
      try dsimp only at hSw
      go_simp
      all_goals try decide
      all_goals try assumption
      all_goals try omega
    try simp only [Act.put, gA, gS, gZ, sA, sZ, sS]
    refine tk 12 (.agg #[.int .u16 i, .int .u8 s]) rfl (.inl ⟨by rfl, ?_⟩) ?_
    · intro w9 hSw
      try dsimp only at hSw
      exact ex_load 24 (.tmp 63) rfl _ _ rfl (ldPl _ _ _ _ (by rw [cell_of_row _ _ 1 _ _ _ hSw.2.1]; rfl) (by rw [cell_of_row _ _ 2 _ _ _ hSw.2.1]; rfl))
    try simp only [Act.put, gA, gS, gZ, sA, sZ, sS]
    refine tk 14 (.pointer (some ⟨w.heap.size, 6, none⟩)) rfl (.inl ⟨by rfl, ?_⟩) ?_
    · intro w9 hSw
      try dsimp only at hSw
      go_simp
      all_goals try decide
      all_goals try assumption
      all_goals try omega
    try simp only [Act.put, gA, gS, gZ, sA, sZ, sS]
    refine tk 15 (.slice a len cap) rfl (.inl ⟨by rfl, ?_⟩) ?_
    · intro w9 hSw
      try dsimp only at hSw
      exact ex_load 26 (.tmp 66) rfl _ _ rfl (ld_26 _ _ _ _ (by rw [cell_of_row _ _ 6 _ _ _ hSw.2.1]; rfl))
    try simp only [Act.put, gA, gS, gZ, sA, sZ, sS]
    refine tk 17 (.bool V) rfl (.inl ⟨by rfl, ?_⟩) ?_
    · intro w9 hSw
      try dsimp only at hSw
      go_simp
      all_goals try decide
      all_goals try assumption
      all_goals try omega
    try simp only [Act.put, gA, gS, gZ, sA, sZ, sS]
    refine wpAnyH_ready (rs := [9]) (by kernel_rfl) (by simp) ?_
    refine AllReadyH.cons rfl (fun K' hK => ?_) AllReadyH.nil
    rw [if_pos (by rfl)]
    simp only [gA, gS, gZ]
    go_wp2_with fail
    refine (KB1.out _).mono ?_
    rintro r ww ⟨rfl, rfl⟩
    try go_wp2_with fail
    refine hK.out _ _ (⟨hW, hB, C0, hC0, hR⟩) (fun hHeld => ?_)
    clear hK K'
    try simp only [Act.put, gA, gS, gZ, sA, sZ, sS]
    clear hW hB hC0 hR
    obtain ⟨hW, hB, C0, hC0, hR⟩ := id hHeld
    refine tk 10 (.int .i64 (f + 2 + B1)) rfl (.inl ⟨by rfl, ?_⟩) ?_
    · intro w9 hSw
      try dsimp only at hSw
      go_simp
      all_goals try (rw [wrapI64 _ (by omega) (by omega)])
      all_goals try decide
      all_goals try omega
    try simp only [Act.put, gA, gS, gZ, sA, sZ, sS]
    refine wpAnyH_ready (rs := [13]) (by kernel_rfl) (by simp) ?_
    refine AllReadyH.cons rfl (fun K' hK => ?_) AllReadyH.nil
    rw [if_pos (by rfl)]
    simp only [gA, gS, gZ]
    go_wp2_with fail
    refine (KP.out _).mono ?_
    rintro r ww ⟨rfl, v14_0, v14_1, v14_2, v14_3, v14_4, rfl⟩
    try go_wp2_with fail
    refine hK.out _ _ (⟨(Below.al (Below.al (Below.al (Below.al (Below.al hW _) _) _) _) _), (ext_al (ext_al (ext_al (ext_al (ext_al hB))))), C0, hC0, (ext_al (ext_al (ext_al (ext_al (ext_al hR)))))⟩) (fun hHeld => ?_)
    clear hK K'
    try simp only [Act.put, gA, gS, gZ, sA, sZ, sS]
    clear hW hB hC0 hR
    obtain ⟨hW, hB, C0, hC0, hR⟩ := id hHeld
    refine wpAnyH_ready (rs := [16]) (by kernel_rfl) (by simp) ?_
    refine AllReadyH.cons rfl (fun K' hK => ?_) AllReadyH.nil
    rw [if_pos (by rfl)]
    simp only [gA, gS, gZ]
    go_wp2_with fail
    refine (FL.out _ hW).mono ?_
    rintro r ww ⟨rfl, v15_0, v15_1, rfl⟩
    try go_wp2_with fail
    refine hK.out _ _ (⟨(Below.al (Below.al hW _) _), (ext_al (ext_al hB)), C0, hC0, (ext_al (ext_al hR))⟩) (fun hHeld => ?_)
    clear hK K'
    try simp only [Act.put, gA, gS, gZ, sA, sZ, sS]
    clear hW hB hC0 hR
    obtain ⟨hW, hB, C0, hC0, hR⟩ := id hHeld
    refine wpAnyH_ready (rs := [18]) (by kernel_rfl) (by simp) ?_
    refine AllReadyH.cons rfl (fun K' hK => ?_) AllReadyH.nil
    rw [if_pos (by rfl)]
    simp only [gA, gS, gZ]
    refine wp_store_by 31 (.tmp 4) (.tmp 68) rfl _ _ rfl rfl (store8 _ _ C0 x0 (i % 256) (i / 256) s (zb d 0) (zb d 1) (zb d 2) (zb d 3) _ hR hC0) ?_
    refine hK.out _ _ (⟨below_setRow hW (by omega) _, (setRow_other _ _ _ _ (by omega)).trans hB, _, rfl, setRow_heap _ _ _ _ _ _ hR⟩) (fun hHeld => ?_)
    clear hK K'
    try simp only [Act.put, gA, gS, gZ, sA, sZ, sS]
    refine tk 19 (.bool V) rfl (.inl ⟨by rfl, ?_⟩) ?_
    · intro w9 hSw
      try dsimp only at hSw
      go_simp
      all_goals try decide
      all_goals try assumption
      all_goals try omega
    try simp only [Act.put, gA, gS, gZ, sA, sZ, sS]
    refine wpAnyH_done (by kernel_rfl) ?_ _
    have hc := fun j => cell_of_row _ (w.heap.size + 1) j _ _ _ (setRow_heap _ _ _ (ar8 x0 (i % 256) (i / 256) s (zb d 0) (zb d 1) (zb d 2) (zb d 3)) _ _ hR)
    have hb := below_setRow hW (Nat.le_succ w.heap.size) (ar8 x0 (i % 256) (i / 256) s (zb d 0) (zb d 1) (zb d 2) (zb d 3))
    clear hHeld hW hB hC0
    go_wp2_with fail
    refine bodyPost_ret (v := .tuple #[arr8 x0 (i % 256) (i / 256) s (zb d 0) (zb d 1) (zb d 2) (zb d 3), .bool V]) ?_ rfl ⟨⟨x0, (i % 256), (i / 256), s, (zb d 0), (zb d 1), (zb d 2), (zb d 3)⟩, V, rfl, ?_, ?_⟩
    · simp [results, Try.results57, go_sem, hc]
    · exact hO.out
    · exact hb
#print axioms ropenQB
end Go.Proofs.Ytlnlejdjekbipaa
namespace Go.Proofs.Ytlnlejdjekbipaa
open Go.RowKit

set_option linter.unusedSimpArgs false in
set_option maxHeartbeats 4000000 in
set_option maxRecDepth 100000 in
theorem ropenQC (f : Int) (hf : f = 32 ∨ f = 64) (C : Cm) (ok : C.Ok) (hq : C.q = true) (hg0 : decide ((⟨C.k, C.i, C.s, C.z, C.n, C.q, C.d, false, false, false, 0, 0, 0, 0, 0⟩ : Cm) = C) = true ∧ C.n = 0 ∧ 1 ≤ C.d.length ∧ C.d.length ≤ 4) (a : Option Addr) (cap : Nat) (hl : C.d.length ≤ 1000) (w : World) (hr : Row w a C.d.length C.d) :
    Calls Try.prog 57 #[C.v a C.d.length cap, .int .i64 f] w (QPost w (wBegin f C)) := by
  obtain ⟨E, hE⟩ : ∃ E, decide ((⟨C.k, C.i, C.s, C.z, C.n, C.q, C.d, false, false, false, 0, 0, 0, 0, 0⟩ : Cm) = C) = E := ⟨_, rfl⟩
  rw [hE] at hg0
  have HS : Hid (∀ W, Below w.heap.size w W → Calls Try.prog 18 #[cmV C.k C.i C.s C.z C.n C.q a C.d.length cap false false false 0 0 0 0 0, cmV C.k C.i C.s C.z C.n C.q a C.d.length cap C.t C.l C.c C.b C.e C.u C.m C.o] W fun r w' => r = .returned (.bool E) ∧ ∃ o1 o2, w' = (W.alloc o1).alloc o2) := fun W hb => by
    have := same_any ⟨C.k, C.i, C.s, C.z, C.n, C.q, C.d, false, false, false, 0, 0, 0, 0, 0⟩ C a C.d.length cap a C.d.length cap W (hr.next hb) (hr.next hb)
    rw [hE] at this
    exact this
  obtain ⟨mn, hmn, lmn, gmn⟩ : ∃ y, min (C.d.length : Int) 4 = y ∧ 0 ≤ y ∧ y ≤ 4 := ⟨_, rfl, by omega, by omega⟩
  obtain ⟨B1, hB1, lB1, gB1⟩ : ∃ y, bitn C.z (1 + 4 * (4 - mn)) = y ∧ 0 ≤ y ∧ y ≤ 17 := ⟨_, rfl, by unfold bitn; split <;> omega, by unfold bitn; split <;> omega⟩
  have KB1 : Hid (∀ W, Calls Try.prog 34 #[.bool C.z, .int .i64 (1 + 4 * (4 - mn))] W fun e w' => e = .returned (.int .i64 B1) ∧ w' = W) := fun W => hB1 ▸ rbit_any C.z (1 + 4 * (4 - mn)) W
  obtain ⟨x0, hx0⟩ : ∃ y, (f + 2 + B1 : Int) % 256 = y := ⟨_, rfl⟩
  have KP : Hid (∀ W, Calls Try.prog 59 #[.int .i64 (f + 2 + B1), .agg #[.int .u16 C.i, .int .u8 C.s]] W fun e w' => e = .returned (arr8 x0 (C.i % 256) (C.i / 256) C.s 0 0 0 0) ∧ ∃ o1 o2 o3 o4 o5, w' = ((((W.alloc o1).alloc o2).alloc o3).alloc o4).alloc o5) := fun W => hx0 ▸ placed_any (f + 2 + B1) C.i C.s ok.i W
  have FL : Hid (∀ W, Below w.heap.size w W → Calls Try.prog 32 #[arr8 x0 (C.i % 256) (C.i / 256) C.s 0 0 0 0, .int .i64 4, .slice a C.d.length cap] W fun e w' => e = .returned (.agg (ar8 x0 (C.i % 256) (C.i / 256) C.s (zb C.d 0) (zb C.d 1) (zb C.d 2) (zb C.d 3))) ∧ ∃ o1 o2, w' = (W.alloc o1).alloc o2) := fun W hb => filled4 _ _ _ _ a C.d.length cap C.d hl W (hr.next hb)
  obtain ⟨V, hV⟩ : ∃ V, (E && (C.n == 0) && decide (1 ≤ C.d.length) && decide (C.d.length ≤ 4) && (C.z || decide (C.d.length = 4))) = V := ⟨_, rfl⟩
  have hO : Hid (wBegin f C = if V then some ⟨x0, C.i % 256, C.i / 256, C.s, zb C.d 0, zb C.d 1, zb C.d 2, zb C.d 3⟩ else none) := by
    have e1 : V = (C.only 27 && quickOk C.z C.d.length) := by
      rw [← hV, ← bare_27, hE, Bool.eq_iff_iff]
      simp only [quickOk, Bool.and_eq_true, Bool.or_eq_true, decide_eq_true_iff, beq_iff_eq]
      constructor
      · rintro ⟨⟨⟨⟨h1, h2⟩, h3⟩, h4⟩, h5⟩
        exact ⟨⟨h1, h2⟩, by rcases h5 with h5 | h5 <;> by_cases h6 : C.d.length = 4 <;> first | exact .inl h6 | exact .inr ⟨h5, h3, by omega⟩ | exact .inl h5⟩
      · rintro ⟨⟨h1, h2⟩, h5⟩
        exact ⟨⟨⟨⟨h1, h2⟩, by omega⟩, by omega⟩, by rcases h5 with h5 | h5 <;> first | exact .inr h5 | exact .inl h5.1⟩
    unfold wBegin
    rw [if_pos hq, ← e1]
    cases V
    · rfl
    · have h2 : quickOk C.z C.d.length = true := by simp only [Bool.true_eq, Bool.and_eq_true] at e1; exact e1.2
      rw [← q0_doc f hf C.z C.d.length h2, hmn, hB1, hx0]; rfl
  have hi := ok.i
  have hf0 : 0 ≤ f := by omega
  have hf1 : f ≤ 64 := by omega
  have HV : Hid _ := hV
  have Hmn : Hid _ := hmn
  have hg : Hid (E = true ∧ C.n = 0 ∧ 1 ≤ C.d.length ∧ C.d.length ≤ 4) := hg0
  clear hg0
  clear hB1 hx0 hE hV hf hmn
  generalize wBegin f C = O at hO ⊢
  clear hr ok
  generalize hlen : C.d.length = len at HS FL HV Hmn hl hg ⊢
  obtain ⟨k, i, s, z, n, q, d, t, l, c, b, e, u, m, o⟩ := C
  dsimp only at HS hO hi KB1 KP FL HV hg hq ⊢
  subst hq
  clear hlen
  have hl' : (len : Int) ≤ 1000 := by omega
  go_enter Try.func57, Try.ntmps57
  go_upto_region 4 with fail
  go_cut [8] from 10 (fun sv wx => sv = .bool V ∧ ∃ o1 o2, wx = ((((w.alloc (.cells (cmC k i s z n true a len cap t l c b e u m o) 36)).alloc (.cells (ar8 0 0 0 0 0 0 0 0) 31)).alloc (.cells (cmC k i s z n true a len cap false false false 0 0 0 0 0) 36)).alloc o1).alloc o2)
  case first =>
    have e2 := HV.out
    obtain ⟨hg1, h0, h1, h4⟩ := hg.out
    clear hg
    subst hg1 h0
    cases z
    · by_cases h5 : len = 4
      · subst h5
        clear Hmn
        obtain rfl : true = V := by rw [← e2]; simp
        clear e2
        go_wp2_with fail
        with_reducible refine (HS.out _ (by repeat (first | assumption | exact Below.refl _ _ | apply Below.drew | apply Below.al))).mono ?_
        rintro r ww ⟨rfl, v1, v2, rfl⟩
        go_wp2_with fail
        go_meet
        exact ⟨rfl, _, _, rfl⟩
      · obtain rfl : false = V := by rw [← e2]; simp [h5]
        clear e2
        have b1 : 1 ≤ (len : Int) := by omega
        have b4 : (len : Int) ≤ 4 := by omega
        have b5 : ((len : Int) == 4) = false := by simp; omega
        go_wp2_with fail
        with_reducible refine (HS.out _ (by repeat (first | assumption | exact Below.refl _ _ | apply Below.drew | apply Below.al))).mono ?_
        rintro r ww ⟨rfl, v1, v2, rfl⟩
        go_wp2_with fail
        go_meet
        exact ⟨rfl, _, _, rfl⟩
    · obtain rfl : true = V := by rw [← e2]; simp [h1, h4]
      clear e2
      have b1 : 1 ≤ (len : Int) := by omega
      have b4 : (len : Int) ≤ 4 := by omega
      go_wp2_with fail
      with_reducible refine (HS.out _ (by repeat (first | assumption | exact Below.refl _ _ | apply Below.drew | apply Below.al))).mono ?_
      rintro r ww ⟨rfl, v1, v2, rfl⟩
      go_wp2_with fail
      go_meet
      exact ⟨rfl, _, _, rfl⟩
  case rest =>
    obtain ⟨rfl, p1, p2, rfl⟩ := hcut
    go_wp2_with fail
    refine wp_region_held_drew (S := fun x => Below w.heap.size w x ∧ x.heap[w.heap.size]? = some (.cells (cmC k i s z n true a len cap t l c b e u m o) 36 (0, 0)) ∧ ∃ C : Array Value, C.size = 8 ∧ x.heap[w.heap.size + 1]? = some (.cells C 31 (0, 0))) (by kernel_rfl) (⟨Below.drew (Below.al (Below.al (Below.al (Below.al (Below.al (Below.refl _ _) _) _) _) _) _), (heap_drew _ _).trans (ext_al (ext_al (ext_al (ext_al (heap_new _ _))))), ar8 0 0 0 0 0 0 0 0, rfl, (heap_drew _ _).trans (ext_al (ext_al (ext_al (heap_at _ _ _ (by simp)))))⟩) (fun hHeld => ?_)
    obtain ⟨hW, hB, C0, hC0, hR⟩ := id hHeld
    refine tk 0 (.int .i64 f) rfl (.inl ⟨by rfl, ?_⟩) ?_
    · intro w9 hSw
      try dsimp only at hSw
      go_simp
      all_goals try decide
      all_goals try assumption
      all_goals try omega
    try simp only [Act.put, gA, gS, gZ, sA, sZ, sS]
    refine tk 1 (.int .i64 (f + 2)) rfl (.inl ⟨by rfl, ?_⟩) ?_
    · intro w9 hSw
      try dsimp only at hSw
      go_simp
      all_goals try (rw [wrapI64 _ (by omega) (by omega)])
      all_goals try decide
      all_goals try omega
    try simp only [Act.put, gA, gS, gZ, sA, sZ, sS]
    refine tk 2 (.pointer (some ⟨w.heap.size, 3, none⟩)) rfl (.inl ⟨by rfl, ?_⟩) ?_
    · intro w9 hSw
      try dsimp only at hSw
      go_simp
      all_goals try decide
      all_goals try assumption
      all_goals try omega
    try simp only [Act.put, gA, gS, gZ, sA, sZ, sS]
    refine tk 3 (.bool z) rfl (.inl ⟨by rfl, ?_⟩) ?_
    · intro w9 hSw
      try dsimp only at hSw
      exact ex_load 4 (.tmp 54) rfl _ _ rfl (ld_4 _ _ _ _ (by rw [cell_of_row _ _ 3 _ _ _ hSw.2.1]; rfl))
    try simp only [Act.put, gA, gS, gZ, sA, sZ, sS]
    refine tk 4 (.int .i64 (len : Int)) rfl (.inl ⟨by rfl, ?_⟩) ?_
    · intro w9 hSw
      try dsimp only at hSw
      go_simp
      all_goals try decide
      all_goals try assumption
      all_goals try omega
    try simp only [Act.put, gA, gS, gZ, sA, sZ, sS]
    refine tk 5 (.int .i64 mn) rfl (.inl ⟨by rfl, ?_⟩) ?_
    · intro w9 hSw
      try dsimp only at hSw
      go_simp
      all_goals (first | (have := Hmn.out; omega) | (simp only [← Hmn.out]; done) | skip)
    try simp only [Act.put, gA, gS, gZ, sA, sZ, sS]
    refine tk 6 (.int .i64 (4 - mn)) rfl (.inl ⟨by rfl, ?_⟩) ?_
    · intro w9 hSw
      try dsimp only at hSw
      go_simp
      all_goals try (rw [wrapI64 _ (by omega) (by omega)])
      all_goals try decide
      all_goals try omega
    try simp only [Act.put, gA, gS, gZ, sA, sZ, sS]
    refine tk 7 (.int .i64 (4 * (4 - mn))) rfl (.inl ⟨by rfl, ?_⟩) ?_
    · intro w9 hSw
      try dsimp only at hSw
      go_simp
      all_goals try (rw [wrapI64 _ (by omega) (by omega)])
      all_goals try decide
      all_goals try omega
    try simp only [Act.put, gA, gS, gZ, sA, sZ, sS]
    refine tk 8 (.int .i64 (1 + 4 * (4 - mn))) rfl (.inl ⟨by rfl, ?_⟩) ?_
    · intro w9 hSw
      try dsimp only at hSw
      go_simp
      all_goals try (rw [wrapI64 _ (by omega) (by omega)])
      all_goals try decide
      all_goals try omega
    try simp only [Act.put, gA, gS, gZ, sA, sZ, sS]
    refine tk 11 (.pointer (some ⟨w.heap.size, 1, none⟩)) rfl (.inl ⟨by rfl, ?_⟩) ?_
    · intro w9 hSw
      try dsimp only at hSw
      go_simp
      all_goals try decide
      all_goals try assumption
      all_goals try omega
    try simp only [Act.put, gA, gS, gZ, sA, sZ, sS]
    refine tk 12 (.agg #[.int .u16 i, .int .u8 s]) rfl (.inl ⟨by rfl, ?_⟩) ?_
    · intro w9 hSw
      try dsimp only at hSw
      exact ex_load 24 (.tmp 63) rfl _ _ rfl (ldPl _ _ _ _ (by rw [cell_of_row _ _ 1 _ _ _ hSw.2.1]; rfl) (by rw [cell_of_row _ _ 2 _ _ _ hSw.2.1]; rfl))
    try simp only [Act.put, gA, gS, gZ, sA, sZ, sS]
    refine tk 14 (.pointer (some ⟨w.heap.size, 6, none⟩)) rfl (.inl ⟨by rfl, ?_⟩) ?_
    · intro w9 hSw
      try dsimp only at hSw
      go_simp
      all_goals try decide
      all_goals try assumption
      all_goals try omega
    try simp only [Act.put, gA, gS, gZ, sA, sZ, sS]
    refine tk 15 (.slice a len cap) rfl (.inl ⟨by rfl, ?_⟩) ?_
    · intro w9 hSw
      try dsimp only at hSw
      exact ex_load 26 (.tmp 66) rfl _ _ rfl (ld_26 _ _ _ _ (by rw [cell_of_row _ _ 6 _ _ _ hSw.2.1]; rfl))
    try simp only [Act.put, gA, gS, gZ, sA, sZ, sS]
    refine tk 17 (.bool V) rfl (.inl ⟨by rfl, ?_⟩) ?_
    · intro w9 hSw
      try dsimp only at hSw
      go_simp
      all_goals try decide
      all_goals try assumption
      all_goals try omega
    try simp only [Act.put, gA, gS, gZ, sA, sZ, sS]
    refine wpAnyH_ready (rs := [9]) (by kernel_rfl) (by simp) ?_
    refine AllReadyH.cons rfl (fun K' hK => ?_) AllReadyH.nil
    rw [if_pos (by rfl)]
    simp only [gA, gS, gZ]
    go_wp2_with fail
    refine (KB1.out _).mono ?_
    rintro r ww ⟨rfl, rfl⟩
    try go_wp2_with fail
    refine hK.out _ _ (⟨hW, hB, C0, hC0, hR⟩) (fun hHeld => ?_)
    clear hK K'
    try simp only [Act.put, gA, gS, gZ, sA, sZ, sS]
    clear hW hB hC0 hR
    obtain ⟨hW, hB, C0, hC0, hR⟩ := id hHeld
    refine tk 10 (.int .i64 (f + 2 + B1)) rfl (.inl ⟨by rfl, ?_⟩) ?_
    · intro w9 hSw
      try dsimp only at hSw
      go_simp
      all_goals try (rw [wrapI64 _ (by omega) (by omega)])
      all_goals try decide
      all_goals try omega
    try simp only [Act.put, gA, gS, gZ, sA, sZ, sS]
    refine wpAnyH_ready (rs := [13]) (by kernel_rfl) (by simp) ?_
    refine AllReadyH.cons rfl (fun K' hK => ?_) AllReadyH.nil
    rw [if_pos (by rfl)]
    simp only [gA, gS, gZ]
    go_wp2_with fail
    refine (KP.out _).mono ?_
    rintro r ww ⟨rfl, v16_0, v16_1, v16_2, v16_3, v16_4, rfl⟩
    try go_wp2_with fail
    refine hK.out _ _ (⟨(Below.al (Below.al (Below.al (Below.al (Below.al hW _) _) _) _) _), (ext_al (ext_al (ext_al (ext_al (ext_al hB))))), C0, hC0, (ext_al (ext_al (ext_al (ext_al (ext_al hR)))))⟩) (fun hHeld => ?_)
    clear hK K'
    try simp only [Act.put, gA, gS, gZ, sA, sZ, sS]
    clear hW hB hC0 hR
    obtain ⟨hW, hB, C0, hC0, hR⟩ := id hHeld
    refine wpAnyH_ready (rs := [16]) (by kernel_rfl) (by simp) ?_
    refine AllReadyH.cons rfl (fun K' hK => ?_) AllReadyH.nil
    rw [if_pos (by rfl)]
    simp only [gA, gS, gZ]
    go_wp2_with fail
    refine (FL.out _ hW).mono ?_
    rintro r ww ⟨rfl, v17_0, v17_1, rfl⟩
    try go_wp2_with fail
    refine hK.out _ _ (⟨(Below.al (Below.al hW _) _), (ext_al (ext_al hB)), C0, hC0, (ext_al (ext_al hR))⟩) (fun hHeld => ?_)
    clear hK K'
    try simp only [Act.put, gA, gS, gZ, sA, sZ, sS]
    clear hW hB hC0 hR
    obtain ⟨hW, hB, C0, hC0, hR⟩ := id hHeld
    refine wpAnyH_ready (rs := [18]) (by kernel_rfl) (by simp) ?_
    refine AllReadyH.cons rfl (fun K' hK => ?_) AllReadyH.nil
    rw [if_pos (by rfl)]
    simp only [gA, gS, gZ]
    refine wp_store_by 31 (.tmp 4) (.tmp 68) rfl _ _ rfl rfl (store8 _ _ C0 x0 (i % 256) (i / 256) s (zb d 0) (zb d 1) (zb d 2) (zb d 3) _ hR hC0) ?_
    refine hK.out _ _ (⟨below_setRow hW (by omega) _, (setRow_other _ _ _ _ (by omega)).trans hB, _, rfl, setRow_heap _ _ _ _ _ _ hR⟩) (fun hHeld => ?_)
    clear hK K'
    try simp only [Act.put, gA, gS, gZ, sA, sZ, sS]
    refine tk 19 (.bool V) rfl (.inl ⟨by rfl, ?_⟩) ?_
    · intro w9 hSw
      try dsimp only at hSw
      go_simp
      all_goals try decide
      all_goals try assumption
      all_goals try omega
    try simp only [Act.put, gA, gS, gZ, sA, sZ, sS]
    refine wpAnyH_done (by kernel_rfl) ?_ _
    have hc := fun j => cell_of_row _ (w.heap.size + 1) j _ _ _ (setRow_heap _ _ _ (ar8 x0 (i % 256) (i / 256) s (zb d 0) (zb d 1) (zb d 2) (zb d 3)) _ _ hR)
    have hb := below_setRow hW (Nat.le_succ w.heap.size) (ar8 x0 (i % 256) (i / 256) s (zb d 0) (zb d 1) (zb d 2) (zb d 3))
    clear hHeld hW hB hC0
    go_wp2_with fail
    refine bodyPost_ret (v := .tuple #[arr8 x0 (i % 256) (i / 256) s (zb d 0) (zb d 1) (zb d 2) (zb d 3), .bool V]) ?_ rfl ⟨⟨x0, (i % 256), (i / 256), s, (zb d 0), (zb d 1), (zb d 2), (zb d 3)⟩, V, rfl, ?_, ?_⟩
    · simp [results, Try.results57, go_sem, hc]
    · exact hO.out
    · exact hb
#print axioms ropenQC
end Go.Proofs.Ytlnlejdjekbipaa
