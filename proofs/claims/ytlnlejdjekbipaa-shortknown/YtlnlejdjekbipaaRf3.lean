/-
  The document's opening.
  The walk of the document's part.
-/
import Derived.Test.YtlnlejdjekbipaaRf1a
import Derived.Test.YtlnlejdjekbipaaRf2a
import Derived.Test.YtlnlejdjekbipaaRf
import Derived.Deep.DeepCutAuto
import Derived.Test.YtlnlejdjekbipaaTk9
namespace Go.Proofs.Ytlnlejdjekbipaa
open Go.RowKit

theorem ropen_any (f : Int) (hf : f = 32 ∨ f = 64) (C : Cm) (ok : C.Ok) (a : Option Addr) (cap : Nat) (hl : C.d.length ≤ 1000) (w : World) (hr : Row w a C.d.length C.d) :
    Calls Try.prog 57 #[C.v a C.d.length cap, .int .i64 f] w (QPost w (wBegin f C)) := by
  cases hE : decide ((⟨C.k, C.i, C.s, C.z, C.n, C.q, C.d, false, false, false, 0, 0, 0, 0, 0⟩ : Cm) = C) with
  | false =>
    cases hq : C.q with
    | true => exact ropenQA f hf C ok hq (.inl hE) a cap hl w hr
    | false => exact ropenSA f hf C ok hq (.inl hE) a cap hl w hr
  | true =>
    cases hq : C.q with
    | true =>
      by_cases h0 : C.n = 0
      · by_cases h1 : 1 ≤ C.d.length ∧ C.d.length ≤ 4
        · exact ropenQC f hf C ok hq ⟨hE, h0, h1⟩ a cap hl w hr
        · exact ropenQB f hf C ok hq ⟨hE, h0, h1⟩ a cap hl w hr
      · exact ropenQA f hf C ok hq (.inr h0) a cap hl w hr
    | false =>
      by_cases h0 : C.d.length = 0
      · exact ropenSB f hf C ok hq ⟨hE, h0⟩ a cap hl w hr
      · exact ropenSA f hf C ok hq (.inr h0) a cap hl w hr
#print axioms ropen_any
end Go.Proofs.Ytlnlejdjekbipaa
namespace Go.Proofs.Ytlnlejdjekbipaa
open Go.RowKit

set_option linter.unusedSimpArgs false in
set_option maxHeartbeats 4000000 in
set_option maxRecDepth 100000 in
theorem rpart_any (C : Cm) (_ok : C.Ok) (a : Option Addr) (cap : Nat) (hl : C.d.length ≤ 1000) (w : World) (hr : Row w a C.d.length C.d) :
    Calls Try.prog 58 #[C.v a C.d.length cap] w (QPost w (wPart 0 C)) := by
  have HS : Hid (∀ W, Below w.heap.size w W → Calls Try.prog 18 #[cmV C.k 0 0 false 0 false a C.d.length cap C.t C.l false 0 0 0 0 0, cmV C.k C.i C.s C.z C.n C.q a C.d.length cap C.t C.l C.c C.b C.e C.u C.m C.o] W fun r w' => r = .returned (.bool (C.only 112)) ∧ ∃ o1 o2, w' = (W.alloc o1).alloc o2) := fun W hb => by
    have := same_any ⟨C.k, 0, 0, false, 0, false, C.d, C.t, C.l, false, 0, 0, 0, 0, 0⟩ C a C.d.length cap a C.d.length cap W (hr.next hb) (hr.next hb)
    rw [bare_112] at this
    exact this
  obtain ⟨mn, hmn, lmn, gmn⟩ : ∃ y, min (C.d.length : Int) 7 = y ∧ 0 ≤ y ∧ y ≤ 7 := ⟨_, rfl, by omega, by omega⟩
  obtain ⟨BT, hBT, lBT, gBT⟩ : ∃ y, bitn C.t 16 = y ∧ 0 ≤ y ∧ y ≤ 16 := ⟨_, rfl, by unfold bitn; split <;> omega, by unfold bitn; split <;> omega⟩
  have KBT : Hid (∀ W, Calls Try.prog 34 #[.bool C.t, .int .i64 16] W fun e w' => e = .returned (.int .i64 BT) ∧ w' = W) := fun W => hBT ▸ rbit_any C.t 16 W
  obtain ⟨BL, hBL, lBL, gBL⟩ : ∃ y, bitn C.l 1 = y ∧ 0 ≤ y ∧ y ≤ 1 := ⟨_, rfl, by unfold bitn; split <;> omega, by unfold bitn; split <;> omega⟩
  have KBL : Hid (∀ W, Calls Try.prog 34 #[.bool C.l, .int .i64 1] W fun e w' => e = .returned (.int .i64 BL) ∧ w' = W) := fun W => hBL ▸ rbit_any C.l 1 W
  obtain ⟨x0, hx0⟩ : ∃ y, (BT + 2 * (7 - mn) + BL) % 256 = y := ⟨_, rfl⟩
  have hx8 : Hid (IntKind.u8.wrap (BT + 2 * (7 - mn) + BL) = x0) := by show _ = _; rw [wrap8]; exact hx0
  have FL : Hid (∀ W, Below w.heap.size w W → Calls Try.prog 32 #[arr8 x0 0 0 0 0 0 0 0, .int .i64 1, .slice a C.d.length cap] W fun e w' => e = .returned (.agg (ar8 x0 (zb C.d 0) (zb C.d 1) (zb C.d 2) (zb C.d 3) (zb C.d 4) (zb C.d 5) (zb C.d 6))) ∧ ∃ o1 o2, w' = (W.alloc o1).alloc o2) := fun W hb => filled1 _ a C.d.length cap C.d hl W (hr.next hb)
  obtain ⟨V, hV⟩ : ∃ V, (C.only 112 && decide (C.d.length ≤ 7) && (C.l || decide (C.d.length = 7))) = V := ⟨_, rfl⟩
  have hO : Hid (wPart 0 C = if V then some ⟨x0, zb C.d 0, zb C.d 1, zb C.d 2, zb C.d 3, zb C.d 4, zb C.d 5, zb C.d 6⟩ else none) := by
    have e1 : V = (C.only 112 && fits (C.d.length : Int) C.l) := by
      rw [← hV, Bool.eq_iff_iff]
      simp only [fits, Bool.and_eq_true, Bool.or_eq_true, decide_eq_true_iff, beq_iff_eq]
      constructor
      · rintro ⟨⟨h1, h4⟩, h5⟩
        exact ⟨h1, by rcases h5 with h5 | h5 <;> by_cases h6 : C.d.length = 7 <;> first | exact .inl (by omega) | exact .inr ⟨h5, by omega⟩⟩
      · rintro ⟨h1, h5⟩
        exact ⟨⟨h1, by omega⟩, by rcases h5 with h5 | h5 <;> first | exact .inr (by omega) | exact .inl h5.1⟩
    unfold wPart
    rw [← e1]
    cases V
    · rfl
    · have h2 : C.d.length ≤ 7 := by simp only [Bool.and_eq_true, decide_eq_true_iff] at hV; exact hV.1.2
      rw [← p0_doc C.t C.l C.d.length h2, hmn, hBT, hBL, hx0]; rfl
  have HV : Hid _ := hV
  have Hmn : Hid _ := hmn
  clear hBT hBL hx0 hV hmn
  generalize C.only 112 = E at HS HV
  generalize wPart 0 C = O at hO ⊢
  clear hr _ok
  generalize hlen : C.d.length = len at HS FL HV Hmn hl ⊢
  obtain ⟨k, i, s, z, n, q, d, t, l, c, b, e, u, m, o⟩ := C
  dsimp only at HS hO KBT KBL FL HV ⊢
  clear hlen
  have hl' : (len : Int) ≤ 1000 := by omega
  go_enter Try.func58, Try.ntmps58
  go_wp2_with fail
  refine wp_region_held_drew (S := fun x => Below w.heap.size w x ∧ x.heap[w.heap.size]? = some (.cells (cmC k i s z n q a len cap t l c b e u m o) 36 (0, 0)) ∧ ∃ C : Array Value, C.size = 8 ∧ x.heap[w.heap.size + 1]? = some (.cells C 31 (0, 0))) (by kernel_rfl) (⟨Below.drew (Below.al (Below.al (Below.al (Below.refl _ _) _) _) _), (heap_drew _ _).trans (ext_al (ext_al (heap_new _ _))), ar8 0 0 0 0 0 0 0 0, rfl, (heap_drew _ _).trans (ext_al (heap_at _ _ _ (by simp)))⟩) (fun hHeld => ?_)
  obtain ⟨hW, hB, C0, hC0, hR⟩ := id hHeld
  refine tk 0 (.pointer (some ⟨w.heap.size, 7, none⟩)) rfl (.inl ⟨by rfl, ?_⟩) ?_
  · intro w9 hSw
    try dsimp only at hSw
    go_simp
    all_goals try decide
    all_goals try assumption
    all_goals try omega
  try simp only [Act.put, gA, gS, gZ, sA, sZ, sS]
  refine tk 1 (.bool t) rfl (.inl ⟨by rfl, ?_⟩) ?_
  · intro w9 hSw
    try dsimp only at hSw
    exact ex_load 4 (.tmp 10) rfl _ _ rfl (ld_4 _ _ _ _ (by rw [cell_of_row _ _ 7 _ _ _ hSw.2.1]; rfl))
  try simp only [Act.put, gA, gS, gZ, sA, sZ, sS]
  refine tk 3 (.int .i64 (len : Int)) rfl (.inl ⟨by rfl, ?_⟩) ?_
  · intro w9 hSw
    try dsimp only at hSw
    go_simp
    all_goals try decide
    all_goals try assumption
    all_goals try omega
  try simp only [Act.put, gA, gS, gZ, sA, sZ, sS]
  refine tk 4 (.int .i64 mn) rfl (.inl ⟨by rfl, ?_⟩) ?_
  · intro w9 hSw
    try dsimp only at hSw
    go_simp
    all_goals (first | (have := Hmn.out; omega) | (simp only [← Hmn.out]; done) | skip)
  try simp only [Act.put, gA, gS, gZ, sA, sZ, sS]
  refine tk 5 (.int .i64 (7 - mn)) rfl (.inl ⟨by rfl, ?_⟩) ?_
  · intro w9 hSw
    try dsimp only at hSw
    go_simp
    all_goals try (rw [wrapI64 _ (by omega) (by omega)])
    all_goals try decide
    all_goals try omega
  try simp only [Act.put, gA, gS, gZ, sA, sZ, sS]
  refine tk 6 (.int .i64 (2 * (7 - mn))) rfl (.inl ⟨by rfl, ?_⟩) ?_
  · intro w9 hSw
    try dsimp only at hSw
    go_simp
    all_goals try (rw [wrapI64 _ (by omega) (by omega)])
    all_goals try decide
    all_goals try omega
  try simp only [Act.put, gA, gS, gZ, sA, sZ, sS]
  refine tk 8 (.pointer (some ⟨w.heap.size, 8, none⟩)) rfl (.inl ⟨by rfl, ?_⟩) ?_
  · intro w9 hSw
    try dsimp only at hSw
    go_simp
    all_goals try decide
    all_goals try assumption
    all_goals try omega
  try simp only [Act.put, gA, gS, gZ, sA, sZ, sS]
  refine tk 9 (.bool l) rfl (.inl ⟨by rfl, ?_⟩) ?_
  · intro w9 hSw
    try dsimp only at hSw
    exact ex_load 4 (.tmp 18) rfl _ _ rfl (ld_4 _ _ _ _ (by rw [cell_of_row _ _ 8 _ _ _ hSw.2.1]; rfl))
  try simp only [Act.put, gA, gS, gZ, sA, sZ, sS]
  refine wpAnyH_ready (rs := [2]) (by kernel_rfl) (by simp) ?_
  refine AllReadyH.cons rfl (fun K' hK => ?_) AllReadyH.nil
  rw [if_pos (by rfl)]
  simp only [gA, gS, gZ]
  go_wp2_with fail
  refine (KBT.out _).mono ?_
  rintro r ww ⟨rfl, rfl⟩
  try go_wp2_with fail
  refine hK.out _ _ (⟨hW, hB, C0, hC0, hR⟩) (fun hHeld => ?_)
  clear hK K'
  try simp only [Act.put, gA, gS, gZ, sA, sZ, sS]
  clear hW hB hC0 hR
  obtain ⟨hW, hB, C0, hC0, hR⟩ := id hHeld
  refine tk 7 (.int .i64 (BT + 2 * (7 - mn))) rfl (.inl ⟨by rfl, ?_⟩) ?_
  · intro w9 hSw
    try dsimp only at hSw
    go_simp
    all_goals try (rw [wrapI64 _ (by omega) (by omega)])
    all_goals try decide
    all_goals try omega
  try simp only [Act.put, gA, gS, gZ, sA, sZ, sS]
  refine wpAnyH_ready (rs := [10]) (by kernel_rfl) (by simp) ?_
  refine AllReadyH.cons rfl (fun K' hK => ?_) AllReadyH.nil
  rw [if_pos (by rfl)]
  simp only [gA, gS, gZ]
  go_wp2_with fail
  refine (KBL.out _).mono ?_
  rintro r ww ⟨rfl, rfl⟩
  try go_wp2_with fail
  refine hK.out _ _ (⟨hW, hB, C0, hC0, hR⟩) (fun hHeld => ?_)
  clear hK K'
  try simp only [Act.put, gA, gS, gZ, sA, sZ, sS]
  clear hW hB hC0 hR
  obtain ⟨hW, hB, C0, hC0, hR⟩ := id hHeld
  refine tk 11 (.int .i64 (BT + 2 * (7 - mn) + BL)) rfl (.inl ⟨by rfl, ?_⟩) ?_
  · intro w9 hSw
    try dsimp only at hSw
    go_simp
    all_goals try (rw [wrapI64 _ (by omega) (by omega)])
    all_goals try decide
    all_goals try omega
  try simp only [Act.put, gA, gS, gZ, sA, sZ, sS]
  refine tk 12 (.int .u8 x0) rfl (.inl ⟨by rfl, ?_⟩) ?_
  · intro w9 hSw
    try dsimp only at hSw
    go_simp
    all_goals first | exact hx8.out | (rw [hx8.out]; done) | (simp only [hx8.out]; done)
  try simp only [Act.put, gA, gS, gZ, sA, sZ, sS]
  refine tk 13 (.pointer (some ⟨w.heap.size + 1 + 1, 0, none⟩)) rfl (.inl ⟨by rfl, ?_⟩) ?_
  · intro w9 hSw
    try dsimp only at hSw
    go_simp
    all_goals try decide
    all_goals try assumption
    all_goals try omega
  try simp only [Act.put, gA, gS, gZ, sA, sZ, sS]
  refine wpAnyH_ready (rs := [14]) (by kernel_rfl) (by simp) ?_
  refine AllReadyH.cons rfl (fun K' hK => ?_) AllReadyH.nil
  rw [if_pos (by rfl)]
  simp only [gA, gS, gZ]
  go_wp2_with fail
  refine hK.out _ _ (⟨Below.drew (Below.al (Below.al (Below.al (Below.refl _ _) _) _) _), (heap_drew _ _).trans (ext_al (ext_al (heap_new _ _))), ar8 0 0 0 0 0 0 0 0, rfl, (heap_drew _ _).trans (ext_al (heap_at _ _ _ (by simp)))⟩) (fun hHeld => ?_)
  clear hK K'
  try simp only [Act.put, gA, gS, gZ, sA, sZ, sS]
  clear hW hB hC0 hR
  obtain ⟨hW, hB, C0, hC0, hR⟩ := id hHeld
  refine wpAnyH_done (by kernel_rfl) ?_ _
  clear hW hB hC0 hR hHeld
  go_upto_region 4 with fail
  go_cut [6] from 7 (fun sv wx => sv = .bool V ∧ ∃ o1 o2, wx = (((((w.alloc (.cells (cmC k i s z n q a len cap t l c b e u m o) 36)).alloc (.cells (ar8 0 0 0 0 0 0 0 0) 31)).alloc (.cells (ar8 x0 0 0 0 0 0 0 0) 31)).drew).alloc o1).alloc o2)
  case first =>
    have e2 := HV.out
    clear HV
    cases E
    · obtain rfl : false = V := by simpa using e2
      clear e2
      go_wp2_with fail
      with_reducible refine (HS.out _ (by repeat (first | assumption | exact Below.refl _ _ | apply Below.drew | apply Below.al))).mono ?_
      rintro r ww ⟨rfl, v1, v2, rfl⟩
      go_wp2_with fail
      go_meet
      exact ⟨rfl, _, _, rfl⟩
    by_cases h7 : len ≤ 7
    · have b7 : (len : Int) ≤ 7 := by omega
      cases l
      · by_cases h5 : len = 7
        · subst h5
          clear Hmn
          obtain rfl : true = V := by rw [← e2]; simp
          clear e2
          go_wp2_with fail
          with_reducible refine (HS.out _ (by repeat (first | assumption | exact Below.refl _ _ | apply Below.drew | apply Below.al))).mono ?_
          rintro r ww ⟨rfl, v1, v2, rfl⟩
          go_wp2_with fail
          go_meet
          exact ⟨rfl, _, _, rfl⟩
        · obtain rfl : false = V := by rw [← e2]; simp [h5]
          clear e2
          have b5 : ((len : Int) == 7) = false := by simp; omega
          go_wp2_with fail
          with_reducible refine (HS.out _ (by repeat (first | assumption | exact Below.refl _ _ | apply Below.drew | apply Below.al))).mono ?_
          rintro r ww ⟨rfl, v1, v2, rfl⟩
          go_wp2_with fail
          go_meet
          exact ⟨rfl, _, _, rfl⟩
      · obtain rfl : true = V := by rw [← e2]; simp [h7]
        clear e2
        go_wp2_with fail
        with_reducible refine (HS.out _ (by repeat (first | assumption | exact Below.refl _ _ | apply Below.drew | apply Below.al))).mono ?_
        rintro r ww ⟨rfl, v1, v2, rfl⟩
        go_wp2_with fail
        go_meet
        exact ⟨rfl, _, _, rfl⟩
    · obtain rfl : false = V := by rw [← e2]; simp [h7]
      clear e2
      have b7 : ¬ (len : Int) ≤ 7 := by omega
      go_wp2_with fail
      with_reducible refine (HS.out _ (by repeat (first | assumption | exact Below.refl _ _ | apply Below.drew | apply Below.al))).mono ?_
      rintro r ww ⟨rfl, v1, v2, rfl⟩
      go_wp2_with fail
      go_meet
      exact ⟨rfl, _, _, rfl⟩
  case rest =>
    obtain ⟨rfl, p1, p2, rfl⟩ := hcut
    go_wp2_with fail
    with_reducible refine (FL.out _ (by repeat (first | assumption | exact Below.refl _ _ | apply Below.drew | apply Below.al))).mono ?_
    rintro r ww ⟨rfl, p3, p4, rfl⟩
    go_wp2_with fail
    exact bodyPost_ret (v := .tuple #[arr8 x0 (zb d 0) (zb d 1) (zb d 2) (zb d 3) (zb d 4) (zb d 5) (zb d 6), .bool V]) (by simp [results, Try.results58, go_sem]) rfl ⟨⟨x0, zb d 0, zb d 1, zb d 2, zb d 3, zb d 4, zb d 5, zb d 6⟩, V, rfl, hO.out, (by repeat (first | assumption | exact Below.refl _ _ | apply Below.drew | apply Below.al))⟩
#print axioms rpart_any
end Go.Proofs.Ytlnlejdjekbipaa
