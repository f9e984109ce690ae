/-
  The walk of the document's acked.
-/
import Derived.Test.YtlnlejdjekbipaaRi
import Derived.Deep.DeepCutAuto
import Derived.Test.YtlnlejdjekbipaaTk9
namespace Go.Proofs.Ytlnlejdjekbipaa
open Go.RowKit

set_option linter.unusedSimpArgs false in
set_option maxHeartbeats 4000000 in
set_option maxRecDepth 100000 in
theorem racked_any (C : Cm) (_ok : C.Ok) (a : Option Addr) (cap : Nat) (w : World) (hr : Row w a C.d.length C.d) :
    Calls Try.prog 64 #[C.v a C.d.length cap] w (QPost w (wAck 162 C)) := by
  have HS : Hid (∀ W, Below w.heap.size w W → Calls Try.prog 18 #[cmV C.k 0 0 false 0 false none 0 0 false false false C.b C.e 0 0 0, cmV C.k C.i C.s C.z C.n C.q a C.d.length cap C.t C.l C.c C.b C.e C.u C.m C.o] W fun r w' => r = .returned (.bool (C.only 768)) ∧ ∃ o1 o2, w' = (W.alloc o1).alloc o2) := fun W hb => by
    have := same_any ⟨C.k, 0, 0, false, 0, false, [], false, false, false, C.b, C.e, 0, 0, 0⟩ C none 0 0 a C.d.length cap W (row_nil W) (hr.next hb)
    rw [bare_768] at this
    exact this
  have KL : Hid (∀ W, Calls Try.prog 33 #[.int .i64 162] W fun e w' => e = .returned (arr8 162 0 0 0 0 0 0 0) ∧ ∃ o1 o2, w' = (W.alloc o1).alloc o2) := fun W => plain_any 162 W
  obtain ⟨y1, hy1⟩ : ∃ y, IntKind.u8.wrap C.e = y := ⟨_, rfl⟩
  obtain ⟨y2, hy2⟩ : ∃ y, IntKind.u8.wrap C.b = y := ⟨_, rfl⟩
  obtain ⟨V, hV⟩ : ∃ V, (C.only 768 && decide (0 ≤ C.e) && decide (C.e ≤ 127) && decide (1 ≤ C.b) && decide (C.b ≤ 127)) = V := ⟨_, rfl⟩
  have hO : Hid (wAck 162 C = if V then some ⟨162, y1, y2, 0, 0, 0, 0, 0⟩ else none) := by
    have e1 : (C.only 768 && ((decide (0 ≤ C.e) && decide (C.e ≤ 127)) && (decide (1 ≤ C.b) && decide (C.b ≤ 127)))) = V := by rw [← hV]; simp only [Bool.and_assoc]
    unfold wAck
    rw [e1]
    cases V
    · rfl
    · have h1 : (0 ≤ C.e ∧ C.e ≤ 127) ∧ 1 ≤ C.b ∧ C.b ≤ 127 := by simp only [Bool.and_eq_true, decide_eq_true_iff] at e1; exact e1.2
      have e3 : y1 = C.e := by rw [← hy1, wrap8]; omega
      have e4 : y2 = C.b := by rw [← hy2, wrap8]; omega
      rw [e3, e4]
      rfl
  have HV : Hid _ := hV
  clear hV
  generalize C.only 768 = E at HS HV
  generalize wAck 162 C = O at hO ⊢
  clear hr _ok
  generalize hlen : C.d.length = len at HS ⊢
  obtain ⟨k, i, s, z, n, q, d, t, l, c, b, e, u, m, o⟩ := C
  clear hlen
  dsimp only at HS hO HV hy1 hy2 ⊢
  go_enter Try.func64, Try.ntmps64
  go_upto_region 1 with fail
  go_cut [4] from 5 (fun sv wx => ∃ P, sv = .pointer (some ⟨P, 0, none⟩) ∧ Hid (w.heap.size + 1 < P) ∧ Hid (Below w.heap.size w wx) ∧ Hid (wx.heap[w.heap.size]? = some (.cells (cmC k i s z n q a len cap t l c b e u m o) 36 (0, 0))) ∧ Hid (wx.heap[w.heap.size + 1]? = some (.cells (ar8 0 0 0 0 0 0 0 0) 31 (0, 0))) ∧ Hid (wx.heap[P]? = some (.cells (ar8 162 0 0 0 0 0 0 0) 31 (0, 0))))
  case first =>
    go_wp2_with fail
    with_reducible refine (KL.out _).mono ?_
    rintro r ww ⟨rfl, p1, p2, rfl⟩
    go_wp2_with fail
    go_meet
    exact ⟨_, rfl, (by show _ < _; omega), (Below.al (Below.al (Below.al (Below.al (Below.al (Below.refl _ _) _) _) _) _) _), (ext_al (ext_al (ext_al (ext_al (heap_new _ _))))), (ext_al (ext_al (ext_al (heap_at _ _ _ (by simp))))), heap_at _ _ _ (by simp)⟩
  case rest =>
    obtain ⟨P, rfl, hcS, hcW, hcB, hcR, hcP⟩ := hcut
    replace hcS := hcS.out
    replace hcW := hcW.out
    replace hcB := hcB.out
    replace hcR := hcR.out
    replace hcP := hcP.out
    have cc : wc.cell? ⟨w.heap.size, 11, none⟩ = some (.int .i64 e) := by rw [cell_of_row wc _ 11 _ _ _ hcB]; rfl
    go_upto_region 2 with fail
    go_cut [] from 5 (fun wx => Hid (Below w.heap.size w wx) ∧ Hid (wx.heap[w.heap.size]? = some (.cells (cmC k i s z n q a len cap t l c b e u m o) 36 (0, 0))) ∧ Hid (wx.heap[w.heap.size + 1]? = some (.cells (ar8 0 0 0 0 0 0 0 0) 31 (0, 0))) ∧ Hid (wx.heap[P]? = some (.cells (ar8 162 y1 0 0 0 0 0 0) 31 (0, 0))))
    case first =>
      go_wp2_with (refine wpList_store_by rfl 5 _ _ rfl _ _ rfl rfl (store1 _ P 1 _ _ (ar8 162 y1 0 0 0 0 0 0) _ hcP rfl (by decide) rfl) ?_)
      go_meet
      exact ⟨below_setRow hcW (by omega) _, (setRow_other _ _ _ _ (by omega)).trans hcB, (setRow_other _ _ _ _ (by omega)).trans hcR, setRow_heap _ _ _ _ _ _ hcP⟩
    case rest =>
      clear cc hcW hcB hcR hcP
      obtain ⟨hcW, hcB, hcR, hcP⟩ := hcut
      replace hcW := hcW.out
      replace hcB := hcB.out
      replace hcR := hcR.out
      replace hcP := hcP.out
      have cc : wc.cell? ⟨w.heap.size, 10, none⟩ = some (.int .i64 b) := by rw [cell_of_row wc _ 10 _ _ _ hcB]; rfl
      go_upto_region 3 with fail
      go_cut [] from 5 (fun wx => Hid (Below w.heap.size w wx) ∧ Hid (wx.heap[w.heap.size]? = some (.cells (cmC k i s z n q a len cap t l c b e u m o) 36 (0, 0))) ∧ Hid (wx.heap[w.heap.size + 1]? = some (.cells (ar8 0 0 0 0 0 0 0 0) 31 (0, 0))) ∧ Hid (wx.heap[P]? = some (.cells (ar8 162 y1 y2 0 0 0 0 0) 31 (0, 0))))
      case first =>
        go_wp2_with (refine wpList_store_by rfl 5 _ _ rfl _ _ rfl rfl (store1 _ P 2 _ _ (ar8 162 y1 y2 0 0 0 0 0) _ hcP rfl (by decide) rfl) ?_)
        go_meet
        exact ⟨below_setRow hcW (by omega) _, (setRow_other _ _ _ _ (by omega)).trans hcB, (setRow_other _ _ _ _ (by omega)).trans hcR, setRow_heap _ _ _ _ _ _ hcP⟩
      case rest =>
        clear cc hcW hcB hcR hcP
        obtain ⟨hcW, hcB, hcR, hcP⟩ := hcut
        replace hcW := hcW.out
        replace hcB := hcB.out
        replace hcR := hcR.out
        replace hcP := hcP.out
        have e2 := HV.out
        clear HV
        cases E
        · obtain rfl : false = V := by rw [← e2]; simp
          clear e2
          go_wp2_with fail
          refine wp_region_held_drew (S := fun x => Below w.heap.size w x ∧ x.heap[w.heap.size]? = some (.cells (cmC k i s z n q a len cap t l c b e u m o) 36 (0, 0)) ∧ ∃ C : Array Value, C.size = 8 ∧ x.heap[w.heap.size + 1]? = some (.cells C 31 (0, 0)) ∧ x.heap[P]? = some (.cells (ar8 162 y1 y2 0 0 0 0 0) 31 (0, 0))) (by kernel_rfl) (⟨Below.drew hcW, (heap_drew _ _).trans hcB, ar8 0 0 0 0 0 0 0 0, rfl, (heap_drew _ _).trans hcR, (heap_drew _ _).trans hcP⟩) (fun hHeld => ?_)
          obtain ⟨hW, hB, C0, hC0, hR, hA0⟩ := id hHeld
          refine tk 0 (arr8 162 y1 y2 0 0 0 0 0) rfl (.inl ⟨by rfl, ?_⟩) ?_
          · intro w9 hSw
            try dsimp only at hSw
            obtain ⟨_, _, _, _, _, hA⟩ := hSw
            exact ex_load 31 (.tmp 4) rfl _ _ rfl (load8 _ _ _ _ _ _ _ _ _ _ _ hA)
          try simp only [Act.put, gA, gS, gZ, sA, sZ, sS]
          refine tk 1 (.pointer (some ⟨w.heap.size, 0, none⟩)) rfl (.inl ⟨by rfl, ?_⟩) ?_
          · intro w9 hSw
            try dsimp only at hSw
            go_simp
            all_goals try decide
            all_goals try assumption
            all_goals try omega
          try simp only [Act.put, gA, gS, gZ, sA, sZ, sS]
          refine tk 2 (.int .u8 k) rfl (.inl ⟨by rfl, ?_⟩) ?_
          · intro w9 hSw
            try dsimp only at hSw
            exact ex_load 5 (.tmp 15) rfl _ _ rfl (ld_5 _ _ _ _ (by rw [cell_of_row _ _ 0 _ _ _ hSw.2.1]; rfl))
          try simp only [Act.put, gA, gS, gZ, sA, sZ, sS]
          refine tk 3 (.pointer (some ⟨w.heap.size, 11, none⟩)) rfl (.inl ⟨by rfl, ?_⟩) ?_
          · intro w9 hSw
            try dsimp only at hSw
            go_simp
            all_goals try decide
            all_goals try assumption
            all_goals try omega
          try simp only [Act.put, gA, gS, gZ, sA, sZ, sS]
          refine tk 4 (.int .i64 e) rfl (.inl ⟨by rfl, ?_⟩) ?_
          · intro w9 hSw
            try dsimp only at hSw
            exact ex_load 3 (.tmp 17) rfl _ _ rfl (ld_3 _ _ _ _ (by rw [cell_of_row _ _ 11 _ _ _ hSw.2.1]; rfl))
          try simp only [Act.put, gA, gS, gZ, sA, sZ, sS]
          refine tk 5 (.pointer (some ⟨w.heap.size, 10, none⟩)) rfl (.inl ⟨by rfl, ?_⟩) ?_
          · intro w9 hSw
            try dsimp only at hSw
            go_simp
            all_goals try decide
            all_goals try assumption
            all_goals try omega
          try simp only [Act.put, gA, gS, gZ, sA, sZ, sS]
          refine tk 6 (.int .i64 b) rfl (.inl ⟨by rfl, ?_⟩) ?_
          · intro w9 hSw
            try dsimp only at hSw
            exact ex_load 3 (.tmp 19) rfl _ _ rfl (ld_3 _ _ _ _ (by rw [cell_of_row _ _ 10 _ _ _ hSw.2.1]; rfl))
          try simp only [Act.put, gA, gS, gZ, sA, sZ, sS]
          refine tk 7 (cmV k 0 0 false 0 false none 0 0 false false false b e 0 0 0) rfl (.inl ⟨by rfl, ?_⟩) ?_
          · intro w9 hSw
            try dsimp only at hSw
            go_simp
            all_goals try decide
            all_goals try assumption
            all_goals try omega
          try simp only [Act.put, gA, gS, gZ, sA, sZ, sS]
          refine tk 8 (cmV k i s z n q a len cap t l c b e u m o) rfl (.inl ⟨by rfl, ?_⟩) ?_
          · intro w9 hSw
            try dsimp only at hSw
            exact ex_load 36 (.tmp 1) rfl _ _ rfl (loadRC _ _ _ _ _ _ _ _ _ _ _ _ _ _ _ _ _ _ _ _ hSw.2.1)
          try simp only [Act.put, gA, gS, gZ, sA, sZ, sS]
          refine wpAnyH_ready (rs := [9]) (by kernel_rfl) (by simp) ?_
          refine AllReadyH.cons rfl (fun K' hK => ?_) AllReadyH.nil
          rw [if_pos (by rfl)]
          simp only [gA, gS, gZ]
          go_wp2_with fail
          refine (HS.out _ hW).mono ?_
          rintro r ww ⟨rfl, v38_0, v38_1, rfl⟩
          try go_wp2_with fail
          refine hK.out _ _ (⟨(Below.al (Below.al hW _) _), (ext_al (ext_al hB)), C0, hC0, (ext_al (ext_al hR)), (ext_al (ext_al hA0))⟩) (fun hHeld => ?_)
          clear hK K'
          try simp only [Act.put, gA, gS, gZ, sA, sZ, sS]
          clear hW hB hC0 hR hA0
          obtain ⟨hW, hB, C0, hC0, hR, hA0⟩ := id hHeld
          refine tk 10 (.bool false) rfl (.inl ⟨by rfl, ?_⟩) ?_
          · intro w9 hSw
            try dsimp only at hSw
            go_simp
            all_goals try decide
            all_goals try assumption
            all_goals try omega
          try simp only [Act.put, gA, gS, gZ, sA, sZ, sS]
          refine tk 11 undef rfl (.inr ⟨by rfl, rfl⟩) ?_
          try simp only [Act.put, gA, gS, gZ, sA, sZ, sS]
          refine tk 12 undef rfl (.inr ⟨by rfl, rfl⟩) ?_
          try simp only [Act.put, gA, gS, gZ, sA, sZ, sS]
          refine tk 13 undef rfl (.inr ⟨by rfl, rfl⟩) ?_
          try simp only [Act.put, gA, gS, gZ, sA, sZ, sS]
          refine tk 14 (.bool false) rfl (.inl ⟨by rfl, ?_⟩) ?_
          · intro w9 hSw
            try dsimp only at hSw
            go_simp
            all_goals try decide
            all_goals try assumption
            all_goals try omega
          try simp only [Act.put, gA, gS, gZ, sA, sZ, sS]
          refine tk 15 (.bool false) rfl (.inl ⟨by rfl, ?_⟩) ?_
          · intro w9 hSw
            try dsimp only at hSw
            go_simp
            all_goals try decide
            all_goals try assumption
            all_goals try omega
          try simp only [Act.put, gA, gS, gZ, sA, sZ, sS]
          refine tk 16 undef rfl (.inr ⟨by rfl, rfl⟩) ?_
          try simp only [Act.put, gA, gS, gZ, sA, sZ, sS]
          refine tk 17 undef rfl (.inr ⟨by rfl, rfl⟩) ?_
          try simp only [Act.put, gA, gS, gZ, sA, sZ, sS]
          refine tk 18 undef rfl (.inr ⟨by rfl, rfl⟩) ?_
          try simp only [Act.put, gA, gS, gZ, sA, sZ, sS]
          refine tk 19 (.bool false) rfl (.inl ⟨by rfl, ?_⟩) ?_
          · intro w9 hSw
            try dsimp only at hSw
            go_simp
            all_goals try decide
            all_goals try assumption
            all_goals try omega
          try simp only [Act.put, gA, gS, gZ, sA, sZ, sS]
          refine tk 20 (.bool false) rfl (.inl ⟨by rfl, ?_⟩) ?_
          · intro w9 hSw
            try dsimp only at hSw
            go_simp
            all_goals try decide
            all_goals try assumption
            all_goals try omega
          try simp only [Act.put, gA, gS, gZ, sA, sZ, sS]
          refine tk 21 undef rfl (.inr ⟨by rfl, rfl⟩) ?_
          try simp only [Act.put, gA, gS, gZ, sA, sZ, sS]
          refine tk 22 undef rfl (.inr ⟨by rfl, rfl⟩) ?_
          try simp only [Act.put, gA, gS, gZ, sA, sZ, sS]
          refine tk 23 undef rfl (.inr ⟨by rfl, rfl⟩) ?_
          try simp only [Act.put, gA, gS, gZ, sA, sZ, sS]
          refine tk 24 (.bool false) rfl (.inl ⟨by rfl, ?_⟩) ?_
          · intro w9 hSw
            try dsimp only at hSw
            go_simp
            all_goals try decide
            all_goals try assumption
            all_goals try omega
          try simp only [Act.put, gA, gS, gZ, sA, sZ, sS]
          refine tk 25 (.bool false) rfl (.inl ⟨by rfl, ?_⟩) ?_
          · intro w9 hSw
            try dsimp only at hSw
            go_simp
            all_goals try decide
            all_goals try assumption
            all_goals try omega
          try simp only [Act.put, gA, gS, gZ, sA, sZ, sS]
          refine tk 26 undef rfl (.inr ⟨by rfl, rfl⟩) ?_
          try simp only [Act.put, gA, gS, gZ, sA, sZ, sS]
          refine tk 27 undef rfl (.inr ⟨by rfl, rfl⟩) ?_
          try simp only [Act.put, gA, gS, gZ, sA, sZ, sS]
          refine tk 28 undef rfl (.inr ⟨by rfl, rfl⟩) ?_
          try simp only [Act.put, gA, gS, gZ, sA, sZ, sS]
          refine tk 29 (.bool false) rfl (.inl ⟨by rfl, ?_⟩) ?_
          · intro w9 hSw
            try dsimp only at hSw
            go_simp
            all_goals try decide
            all_goals try assumption
            all_goals try omega
          try simp only [Act.put, gA, gS, gZ, sA, sZ, sS]
          refine wpAnyH_ready (rs := [30]) (by kernel_rfl) (by simp) ?_
          refine AllReadyH.cons rfl (fun K' hK => ?_) AllReadyH.nil
          rw [if_pos (by rfl)]
          simp only [gA, gS, gZ]
          refine wp_store_by 31 (.tmp 2) (.tmp 14) rfl _ _ rfl rfl (store8 _ _ C0 162 y1 y2 0 0 0 0 0 _ hR hC0) ?_
          refine hK.out _ _ (⟨below_setRow hW (by omega) _, (setRow_other _ _ _ _ (by omega)).trans hB, _, rfl, setRow_heap _ _ _ _ _ _ hR, (setRow_other _ _ _ _ (by omega)).trans hA0⟩) (fun hHeld => ?_)
          clear hK K'
          try simp only [Act.put, gA, gS, gZ, sA, sZ, sS]
          refine tk 31 (.bool false) rfl (.inl ⟨by rfl, ?_⟩) ?_
          · intro w9 hSw
            try dsimp only at hSw
            go_simp
            all_goals try decide
            all_goals try assumption
            all_goals try omega
          try simp only [Act.put, gA, gS, gZ, sA, sZ, sS]
          refine wpAnyH_done (by kernel_rfl) ?_ _
          have hc := fun j => cell_of_row _ (w.heap.size + 1) j _ _ _ (setRow_heap _ _ _ (ar8 162 y1 y2 0 0 0 0 0) _ _ hR)
          have hb := below_setRow hW (Nat.le_succ w.heap.size) (ar8 162 y1 y2 0 0 0 0 0)
          clear hHeld hW hB hC0
          go_wp2_with fail
          refine bodyPost_ret (v := .tuple #[arr8 162 y1 y2 0 0 0 0 0, .bool false]) ?_ rfl ⟨⟨162, y1, y2, 0, 0, 0, 0, 0⟩, false, rfl, ?_, ?_⟩
          · simp [results, Try.results64, go_sem, hc]
          · exact hO.out
          · exact hb
        by_cases h0 : 0 ≤ e
        · by_cases h1 : e ≤ 127
          · by_cases h2 : 1 ≤ b
            · by_cases h3 : b ≤ 127
              · obtain rfl : true = V := by rw [← e2]; simp [h0, h1, h2, h3]
                clear e2
                go_wp2_with fail
                refine wp_region_held_drew (S := fun x => Below w.heap.size w x ∧ x.heap[w.heap.size]? = some (.cells (cmC k i s z n q a len cap t l c b e u m o) 36 (0, 0)) ∧ ∃ C : Array Value, C.size = 8 ∧ x.heap[w.heap.size + 1]? = some (.cells C 31 (0, 0)) ∧ x.heap[P]? = some (.cells (ar8 162 y1 y2 0 0 0 0 0) 31 (0, 0))) (by kernel_rfl) (⟨Below.drew hcW, (heap_drew _ _).trans hcB, ar8 0 0 0 0 0 0 0 0, rfl, (heap_drew _ _).trans hcR, (heap_drew _ _).trans hcP⟩) (fun hHeld => ?_)
                obtain ⟨hW, hB, C0, hC0, hR, hA0⟩ := id hHeld
                refine tk 0 (arr8 162 y1 y2 0 0 0 0 0) rfl (.inl ⟨by rfl, ?_⟩) ?_
                · intro w9 hSw
                  try dsimp only at hSw
                  obtain ⟨_, _, _, _, _, hA⟩ := hSw
                  exact ex_load 31 (.tmp 4) rfl _ _ rfl (load8 _ _ _ _ _ _ _ _ _ _ _ hA)
                try simp only [Act.put, gA, gS, gZ, sA, sZ, sS]
                refine tk 1 (.pointer (some ⟨w.heap.size, 0, none⟩)) rfl (.inl ⟨by rfl, ?_⟩) ?_
                · intro w9 hSw
                  try dsimp only at hSw
                  go_simp
                  all_goals try decide
                  all_goals try assumption
                  all_goals try omega
                try simp only [Act.put, gA, gS, gZ, sA, sZ, sS]
                refine tk 2 (.int .u8 k) rfl (.inl ⟨by rfl, ?_⟩) ?_
                · intro w9 hSw
                  try dsimp only at hSw
                  exact ex_load 5 (.tmp 15) rfl _ _ rfl (ld_5 _ _ _ _ (by rw [cell_of_row _ _ 0 _ _ _ hSw.2.1]; rfl))
                try simp only [Act.put, gA, gS, gZ, sA, sZ, sS]
                refine tk 3 (.pointer (some ⟨w.heap.size, 11, none⟩)) rfl (.inl ⟨by rfl, ?_⟩) ?_
                · intro w9 hSw
                  try dsimp only at hSw
                  go_simp
                  all_goals try decide
                  all_goals try assumption
                  all_goals try omega
                try simp only [Act.put, gA, gS, gZ, sA, sZ, sS]
                refine tk 4 (.int .i64 e) rfl (.inl ⟨by rfl, ?_⟩) ?_
                · intro w9 hSw
                  try dsimp only at hSw
                  exact ex_load 3 (.tmp 17) rfl _ _ rfl (ld_3 _ _ _ _ (by rw [cell_of_row _ _ 11 _ _ _ hSw.2.1]; rfl))
                try simp only [Act.put, gA, gS, gZ, sA, sZ, sS]
                refine tk 5 (.pointer (some ⟨w.heap.size, 10, none⟩)) rfl (.inl ⟨by rfl, ?_⟩) ?_
                · intro w9 hSw
                  try dsimp only at hSw
                  go_simp
                  all_goals try decide
                  all_goals try assumption
                  all_goals try omega
                try simp only [Act.put, gA, gS, gZ, sA, sZ, sS]
                refine tk 6 (.int .i64 b) rfl (.inl ⟨by rfl, ?_⟩) ?_
                · intro w9 hSw
                  try dsimp only at hSw
                  exact ex_load 3 (.tmp 19) rfl _ _ rfl (ld_3 _ _ _ _ (by rw [cell_of_row _ _ 10 _ _ _ hSw.2.1]; rfl))
                try simp only [Act.put, gA, gS, gZ, sA, sZ, sS]
                refine tk 7 (cmV k 0 0 false 0 false none 0 0 false false false b e 0 0 0) rfl (.inl ⟨by rfl, ?_⟩) ?_
                · intro w9 hSw
                  try dsimp only at hSw
                  go_simp
                  all_goals try decide
                  all_goals try assumption
                  all_goals try omega
                try simp only [Act.put, gA, gS, gZ, sA, sZ, sS]
                refine tk 8 (cmV k i s z n q a len cap t l c b e u m o) rfl (.inl ⟨by rfl, ?_⟩) ?_
                · intro w9 hSw
                  try dsimp only at hSw
                  exact ex_load 36 (.tmp 1) rfl _ _ rfl (loadRC _ _ _ _ _ _ _ _ _ _ _ _ _ _ _ _ _ _ _ _ hSw.2.1)
                try simp only [Act.put, gA, gS, gZ, sA, sZ, sS]
                refine wpAnyH_ready (rs := [9]) (by kernel_rfl) (by simp) ?_
                refine AllReadyH.cons rfl (fun K' hK => ?_) AllReadyH.nil
                rw [if_pos (by rfl)]
                simp only [gA, gS, gZ]
                go_wp2_with fail
                refine (HS.out _ hW).mono ?_
                rintro r ww ⟨rfl, v39_0, v39_1, rfl⟩
                try go_wp2_with fail
                refine hK.out _ _ (⟨(Below.al (Below.al hW _) _), (ext_al (ext_al hB)), C0, hC0, (ext_al (ext_al hR)), (ext_al (ext_al hA0))⟩) (fun hHeld => ?_)
                clear hK K'
                try simp only [Act.put, gA, gS, gZ, sA, sZ, sS]
                clear hW hB hC0 hR hA0
                obtain ⟨hW, hB, C0, hC0, hR, hA0⟩ := id hHeld
                refine tk 10 (.bool true) rfl (.inl ⟨by rfl, ?_⟩) ?_
                · intro w9 hSw
                  try dsimp only at hSw
                  go_simp
                  all_goals try decide
                  all_goals try assumption
                  all_goals try omega
                try simp only [Act.put, gA, gS, gZ, sA, sZ, sS]
                refine tk 11 (.pointer (some ⟨w.heap.size, 11, none⟩)) rfl (.inl ⟨by rfl, ?_⟩) ?_
                · intro w9 hSw
                  try dsimp only at hSw
                  go_simp
                  all_goals try decide
                  all_goals try assumption
                  all_goals try omega
                try simp only [Act.put, gA, gS, gZ, sA, sZ, sS]
                refine tk 12 (.int .i64 e) rfl (.inl ⟨by rfl, ?_⟩) ?_
                · intro w9 hSw
                  try dsimp only at hSw
                  exact ex_load 3 (.tmp 25) rfl _ _ rfl (ld_3 _ _ _ _ (by rw [cell_of_row _ _ 11 _ _ _ hSw.2.1]; rfl))
                try simp only [Act.put, gA, gS, gZ, sA, sZ, sS]
                refine tk 13 (.bool true) rfl (.inl ⟨by rfl, ?_⟩) ?_
                · intro w9 hSw
                  try dsimp only at hSw
                  go_simp
                  all_goals try decide
                  all_goals try omega
                try simp only [Act.put, gA, gS, gZ, sA, sZ, sS]
                refine tk 14 (.bool true) rfl (.inl ⟨by rfl, ?_⟩) ?_
                · intro w9 hSw
                  try dsimp only at hSw
                  go_simp
                  all_goals try decide
                  all_goals try assumption
                  all_goals try omega
                try simp only [Act.put, gA, gS, gZ, sA, sZ, sS]
                refine tk 15 (.bool true) rfl (.inl ⟨by rfl, ?_⟩) ?_
                · intro w9 hSw
                  try dsimp only at hSw
                  go_simp
                  all_goals try decide
                  all_goals try assumption
                  all_goals try omega
                try simp only [Act.put, gA, gS, gZ, sA, sZ, sS]
                refine tk 16 (.pointer (some ⟨w.heap.size, 11, none⟩)) rfl (.inl ⟨by rfl, ?_⟩) ?_
                · intro w9 hSw
                  try dsimp only at hSw
                  go_simp
                  all_goals try decide
                  all_goals try assumption
                  all_goals try omega
                try simp only [Act.put, gA, gS, gZ, sA, sZ, sS]
                refine tk 17 (.int .i64 e) rfl (.inl ⟨by rfl, ?_⟩) ?_
                · intro w9 hSw
                  try dsimp only at hSw
                  exact ex_load 3 (.tmp 30) rfl _ _ rfl (ld_3 _ _ _ _ (by rw [cell_of_row _ _ 11 _ _ _ hSw.2.1]; rfl))
                try simp only [Act.put, gA, gS, gZ, sA, sZ, sS]
                refine tk 18 (.bool true) rfl (.inl ⟨by rfl, ?_⟩) ?_
                · intro w9 hSw
                  try dsimp only at hSw
                  go_simp
                  all_goals try decide
                  all_goals try omega
                try simp only [Act.put, gA, gS, gZ, sA, sZ, sS]
                refine tk 19 (.bool true) rfl (.inl ⟨by rfl, ?_⟩) ?_
                · intro w9 hSw
                  try dsimp only at hSw
                  go_simp
                  all_goals try decide
                  all_goals try assumption
                  all_goals try omega
                try simp only [Act.put, gA, gS, gZ, sA, sZ, sS]
                refine tk 20 (.bool true) rfl (.inl ⟨by rfl, ?_⟩) ?_
                · intro w9 hSw
                  try dsimp only at hSw
                  go_simp
                  all_goals try decide
                  all_goals try assumption
                  all_goals try omega
                try simp only [Act.put, gA, gS, gZ, sA, sZ, sS]
                refine tk 21 (.pointer (some ⟨w.heap.size, 10, none⟩)) rfl (.inl ⟨by rfl, ?_⟩) ?_
                · intro w9 hSw
                  try dsimp only at hSw
                  go_simp
                  all_goals try decide
                  all_goals try assumption
                  all_goals try omega
                try simp only [Act.put, gA, gS, gZ, sA, sZ, sS]
                refine tk 22 (.int .i64 b) rfl (.inl ⟨by rfl, ?_⟩) ?_
                · intro w9 hSw
                  try dsimp only at hSw
                  exact ex_load 3 (.tmp 35) rfl _ _ rfl (ld_3 _ _ _ _ (by rw [cell_of_row _ _ 10 _ _ _ hSw.2.1]; rfl))
                try simp only [Act.put, gA, gS, gZ, sA, sZ, sS]
                refine tk 23 (.bool true) rfl (.inl ⟨by rfl, ?_⟩) ?_
                · intro w9 hSw
                  try dsimp only at hSw
                  go_simp
                  all_goals try decide
                  all_goals try omega
                try simp only [Act.put, gA, gS, gZ, sA, sZ, sS]
                refine tk 24 (.bool true) rfl (.inl ⟨by rfl, ?_⟩) ?_
                · intro w9 hSw
                  try dsimp only at hSw
                  go_simp
                  all_goals try decide
                  all_goals try assumption
                  all_goals try omega
                try simp only [Act.put, gA, gS, gZ, sA, sZ, sS]
                refine tk 25 (.bool true) rfl (.inl ⟨by rfl, ?_⟩) ?_
                · intro w9 hSw
                  try dsimp only at hSw
                  go_simp
                  all_goals try decide
                  all_goals try assumption
                  all_goals try omega
                try simp only [Act.put, gA, gS, gZ, sA, sZ, sS]
                refine tk 26 (.pointer (some ⟨w.heap.size, 10, none⟩)) rfl (.inl ⟨by rfl, ?_⟩) ?_
                · intro w9 hSw
                  try dsimp only at hSw
                  go_simp
                  all_goals try decide
                  all_goals try assumption
                  all_goals try omega
                try simp only [Act.put, gA, gS, gZ, sA, sZ, sS]
                refine tk 27 (.int .i64 b) rfl (.inl ⟨by rfl, ?_⟩) ?_
                · intro w9 hSw
                  try dsimp only at hSw
                  exact ex_load 3 (.tmp 40) rfl _ _ rfl (ld_3 _ _ _ _ (by rw [cell_of_row _ _ 10 _ _ _ hSw.2.1]; rfl))
                try simp only [Act.put, gA, gS, gZ, sA, sZ, sS]
                refine tk 28 (.bool true) rfl (.inl ⟨by rfl, ?_⟩) ?_
                · intro w9 hSw
                  try dsimp only at hSw
                  go_simp
                  all_goals try decide
                  all_goals try omega
                try simp only [Act.put, gA, gS, gZ, sA, sZ, sS]
                refine tk 29 (.bool true) rfl (.inl ⟨by rfl, ?_⟩) ?_
                · intro w9 hSw
                  try dsimp only at hSw
                  go_simp
                  all_goals try decide
                  all_goals try assumption
                  all_goals try omega
                try simp only [Act.put, gA, gS, gZ, sA, sZ, sS]
                refine wpAnyH_ready (rs := [30]) (by kernel_rfl) (by simp) ?_
                refine AllReadyH.cons rfl (fun K' hK => ?_) AllReadyH.nil
                rw [if_pos (by rfl)]
                simp only [gA, gS, gZ]
                refine wp_store_by 31 (.tmp 2) (.tmp 14) rfl _ _ rfl rfl (store8 _ _ C0 162 y1 y2 0 0 0 0 0 _ hR hC0) ?_
                refine hK.out _ _ (⟨below_setRow hW (by omega) _, (setRow_other _ _ _ _ (by omega)).trans hB, _, rfl, setRow_heap _ _ _ _ _ _ hR, (setRow_other _ _ _ _ (by omega)).trans hA0⟩) (fun hHeld => ?_)
                clear hK K'
                try simp only [Act.put, gA, gS, gZ, sA, sZ, sS]
                refine tk 31 (.bool true) rfl (.inl ⟨by rfl, ?_⟩) ?_
                · intro w9 hSw
                  try dsimp only at hSw
                  go_simp
                  all_goals try decide
                  all_goals try assumption
                  all_goals try omega
                try simp only [Act.put, gA, gS, gZ, sA, sZ, sS]
                refine wpAnyH_done (by kernel_rfl) ?_ _
                have hc := fun j => cell_of_row _ (w.heap.size + 1) j _ _ _ (setRow_heap _ _ _ (ar8 162 y1 y2 0 0 0 0 0) _ _ hR)
                have hb := below_setRow hW (Nat.le_succ w.heap.size) (ar8 162 y1 y2 0 0 0 0 0)
                clear hHeld hW hB hC0
                go_wp2_with fail
                refine bodyPost_ret (v := .tuple #[arr8 162 y1 y2 0 0 0 0 0, .bool true]) ?_ rfl ⟨⟨162, y1, y2, 0, 0, 0, 0, 0⟩, true, rfl, ?_, ?_⟩
                · simp [results, Try.results64, go_sem, hc]
                · exact hO.out
                · exact hb
              · obtain rfl : false = V := by rw [← e2]; simp [h0, h1, h2, h3]
                clear e2
                go_wp2_with fail
                refine wp_region_held_drew (S := fun x => Below w.heap.size w x ∧ x.heap[w.heap.size]? = some (.cells (cmC k i s z n q a len cap t l c b e u m o) 36 (0, 0)) ∧ ∃ C : Array Value, C.size = 8 ∧ x.heap[w.heap.size + 1]? = some (.cells C 31 (0, 0)) ∧ x.heap[P]? = some (.cells (ar8 162 y1 y2 0 0 0 0 0) 31 (0, 0))) (by kernel_rfl) (⟨Below.drew hcW, (heap_drew _ _).trans hcB, ar8 0 0 0 0 0 0 0 0, rfl, (heap_drew _ _).trans hcR, (heap_drew _ _).trans hcP⟩) (fun hHeld => ?_)
                obtain ⟨hW, hB, C0, hC0, hR, hA0⟩ := id hHeld
                refine tk 0 (arr8 162 y1 y2 0 0 0 0 0) rfl (.inl ⟨by rfl, ?_⟩) ?_
                · intro w9 hSw
                  try dsimp only at hSw
                  obtain ⟨_, _, _, _, _, hA⟩ := hSw
                  exact ex_load 31 (.tmp 4) rfl _ _ rfl (load8 _ _ _ _ _ _ _ _ _ _ _ hA)
                try simp only [Act.put, gA, gS, gZ, sA, sZ, sS]
                refine tk 1 (.pointer (some ⟨w.heap.size, 0, none⟩)) rfl (.inl ⟨by rfl, ?_⟩) ?_
                · intro w9 hSw
                  try dsimp only at hSw
                  go_simp
                  all_goals try decide
                  all_goals try assumption
                  all_goals try omega
                try simp only [Act.put, gA, gS, gZ, sA, sZ, sS]
                refine tk 2 (.int .u8 k) rfl (.inl ⟨by rfl, ?_⟩) ?_
                · intro w9 hSw
                  try dsimp only at hSw
                  exact ex_load 5 (.tmp 15) rfl _ _ rfl (ld_5 _ _ _ _ (by rw [cell_of_row _ _ 0 _ _ _ hSw.2.1]; rfl))
                try simp only [Act.put, gA, gS, gZ, sA, sZ, sS]
                refine tk 3 (.pointer (some ⟨w.heap.size, 11, none⟩)) rfl (.inl ⟨by rfl, ?_⟩) ?_
                · intro w9 hSw
                  try dsimp only at hSw
                  go_simp
                  all_goals try decide
                  all_goals try assumption
                  all_goals try omega
                try simp only [Act.put, gA, gS, gZ, sA, sZ, sS]
                refine tk 4 (.int .i64 e) rfl (.inl ⟨by rfl, ?_⟩) ?_
                · intro w9 hSw
                  try dsimp only at hSw
                  exact ex_load 3 (.tmp 17) rfl _ _ rfl (ld_3 _ _ _ _ (by rw [cell_of_row _ _ 11 _ _ _ hSw.2.1]; rfl))
                try simp only [Act.put, gA, gS, gZ, sA, sZ, sS]
                refine tk 5 (.pointer (some ⟨w.heap.size, 10, none⟩)) rfl (.inl ⟨by rfl, ?_⟩) ?_
                · intro w9 hSw
                  try dsimp only at hSw
                  go_simp
                  all_goals try decide
                  all_goals try assumption
                  all_goals try omega
                try simp only [Act.put, gA, gS, gZ, sA, sZ, sS]
                refine tk 6 (.int .i64 b) rfl (.inl ⟨by rfl, ?_⟩) ?_
                · intro w9 hSw
                  try dsimp only at hSw
                  exact ex_load 3 (.tmp 19) rfl _ _ rfl (ld_3 _ _ _ _ (by rw [cell_of_row _ _ 10 _ _ _ hSw.2.1]; rfl))
                try simp only [Act.put, gA, gS, gZ, sA, sZ, sS]
                refine tk 7 (cmV k 0 0 false 0 false none 0 0 false false false b e 0 0 0) rfl (.inl ⟨by rfl, ?_⟩) ?_
                · intro w9 hSw
                  try dsimp only at hSw
                  go_simp
                  all_goals try decide
                  all_goals try assumption
                  all_goals try omega
                try simp only [Act.put, gA, gS, gZ, sA, sZ, sS]
                refine tk 8 (cmV k i s z n q a len cap t l c b e u m o) rfl (.inl ⟨by rfl, ?_⟩) ?_
                · intro w9 hSw
                  try dsimp only at hSw
                  exact ex_load 36 (.tmp 1) rfl _ _ rfl (loadRC _ _ _ _ _ _ _ _ _ _ _ _ _ _ _ _ _ _ _ _ hSw.2.1)
                try simp only [Act.put, gA, gS, gZ, sA, sZ, sS]
                refine wpAnyH_ready (rs := [9]) (by kernel_rfl) (by simp) ?_
                refine AllReadyH.cons rfl (fun K' hK => ?_) AllReadyH.nil
                rw [if_pos (by rfl)]
                simp only [gA, gS, gZ]
                go_wp2_with fail
                refine (HS.out _ hW).mono ?_
                rintro r ww ⟨rfl, v40_0, v40_1, rfl⟩
                try go_wp2_with fail
                refine hK.out _ _ (⟨(Below.al (Below.al hW _) _), (ext_al (ext_al hB)), C0, hC0, (ext_al (ext_al hR)), (ext_al (ext_al hA0))⟩) (fun hHeld => ?_)
                clear hK K'
                try simp only [Act.put, gA, gS, gZ, sA, sZ, sS]
                clear hW hB hC0 hR hA0
                obtain ⟨hW, hB, C0, hC0, hR, hA0⟩ := id hHeld
                refine tk 10 (.bool true) rfl (.inl ⟨by rfl, ?_⟩) ?_
                · intro w9 hSw
                  try dsimp only at hSw
                  go_simp
                  all_goals try decide
                  all_goals try assumption
                  all_goals try omega
                try simp only [Act.put, gA, gS, gZ, sA, sZ, sS]
                refine tk 11 (.pointer (some ⟨w.heap.size, 11, none⟩)) rfl (.inl ⟨by rfl, ?_⟩) ?_
                · intro w9 hSw
                  try dsimp only at hSw
                  go_simp
                  all_goals try decide
                  all_goals try assumption
                  all_goals try omega
                try simp only [Act.put, gA, gS, gZ, sA, sZ, sS]
                refine tk 12 (.int .i64 e) rfl (.inl ⟨by rfl, ?_⟩) ?_
                · intro w9 hSw
                  try dsimp only at hSw
                  exact ex_load 3 (.tmp 25) rfl _ _ rfl (ld_3 _ _ _ _ (by rw [cell_of_row _ _ 11 _ _ _ hSw.2.1]; rfl))
                try simp only [Act.put, gA, gS, gZ, sA, sZ, sS]
                refine tk 13 (.bool true) rfl (.inl ⟨by rfl, ?_⟩) ?_
                · intro w9 hSw
                  try dsimp only at hSw
                  go_simp
                  all_goals try decide
                  all_goals try omega
                try simp only [Act.put, gA, gS, gZ, sA, sZ, sS]
                refine tk 14 (.bool true) rfl (.inl ⟨by rfl, ?_⟩) ?_
                · intro w9 hSw
                  try dsimp only at hSw
                  go_simp
                  all_goals try decide
                  all_goals try assumption
                  all_goals try omega
                try simp only [Act.put, gA, gS, gZ, sA, sZ, sS]
                refine tk 15 (.bool true) rfl (.inl ⟨by rfl, ?_⟩) ?_
                · intro w9 hSw
                  try dsimp only at hSw
                  go_simp
                  all_goals try decide
                  all_goals try assumption
                  all_goals try omega
                try simp only [Act.put, gA, gS, gZ, sA, sZ, sS]
                refine tk 16 (.pointer (some ⟨w.heap.size, 11, none⟩)) rfl (.inl ⟨by rfl, ?_⟩) ?_
                · intro w9 hSw
                  try dsimp only at hSw
                  go_simp
                  all_goals try decide
                  all_goals try assumption
                  all_goals try omega
                try simp only [Act.put, gA, gS, gZ, sA, sZ, sS]
                refine tk 17 (.int .i64 e) rfl (.inl ⟨by rfl, ?_⟩) ?_
                · intro w9 hSw
                  try dsimp only at hSw
                  exact ex_load 3 (.tmp 30) rfl _ _ rfl (ld_3 _ _ _ _ (by rw [cell_of_row _ _ 11 _ _ _ hSw.2.1]; rfl))
                try simp only [Act.put, gA, gS, gZ, sA, sZ, sS]
                refine tk 18 (.bool true) rfl (.inl ⟨by rfl, ?_⟩) ?_
                · intro w9 hSw
                  try dsimp only at hSw
                  go_simp
                  all_goals try decide
                  all_goals try omega
                try simp only [Act.put, gA, gS, gZ, sA, sZ, sS]
                refine tk 19 (.bool true) rfl (.inl ⟨by rfl, ?_⟩) ?_
                · intro w9 hSw
                  try dsimp only at hSw
                  go_simp
                  all_goals try decide
                  all_goals try assumption
                  all_goals try omega
                try simp only [Act.put, gA, gS, gZ, sA, sZ, sS]
                refine tk 20 (.bool true) rfl (.inl ⟨by rfl, ?_⟩) ?_
                · intro w9 hSw
                  try dsimp only at hSw
                  go_simp
                  all_goals try decide
                  all_goals try assumption
                  all_goals try omega
                try simp only [Act.put, gA, gS, gZ, sA, sZ, sS]
                refine tk 21 (.pointer (some ⟨w.heap.size, 10, none⟩)) rfl (.inl ⟨by rfl, ?_⟩) ?_
                · intro w9 hSw
                  try dsimp only at hSw
                  go_simp
                  all_goals try decide
                  all_goals try assumption
                  all_goals try omega
                try simp only [Act.put, gA, gS, gZ, sA, sZ, sS]
                refine tk 22 (.int .i64 b) rfl (.inl ⟨by rfl, ?_⟩) ?_
                · intro w9 hSw
                  try dsimp only at hSw
                  exact ex_load 3 (.tmp 35) rfl _ _ rfl (ld_3 _ _ _ _ (by rw [cell_of_row _ _ 10 _ _ _ hSw.2.1]; rfl))
                try simp only [Act.put, gA, gS, gZ, sA, sZ, sS]
                refine tk 23 (.bool true) rfl (.inl ⟨by rfl, ?_⟩) ?_
                · intro w9 hSw
                  try dsimp only at hSw
                  go_simp
                  all_goals try decide
                  all_goals try omega
                try simp only [Act.put, gA, gS, gZ, sA, sZ, sS]
                refine tk 24 (.bool true) rfl (.inl ⟨by rfl, ?_⟩) ?_
                · intro w9 hSw
                  try dsimp only at hSw
                  go_simp
                  all_goals try decide
                  all_goals try assumption
                  all_goals try omega
                try simp only [Act.put, gA, gS, gZ, sA, sZ, sS]
                refine tk 25 (.bool true) rfl (.inl ⟨by rfl, ?_⟩) ?_
                · intro w9 hSw
                  try dsimp only at hSw
                  go_simp
                  all_goals try decide
                  all_goals try assumption
                  all_goals try omega
                try simp only [Act.put, gA, gS, gZ, sA, sZ, sS]
                refine tk 26 (.pointer (some ⟨w.heap.size, 10, none⟩)) rfl (.inl ⟨by rfl, ?_⟩) ?_
                · intro w9 hSw
                  try dsimp only at hSw
                  go_simp
                  all_goals try decide
                  all_goals try assumption
                  all_goals try omega
                try simp only [Act.put, gA, gS, gZ, sA, sZ, sS]
                refine tk 27 (.int .i64 b) rfl (.inl ⟨by rfl, ?_⟩) ?_
                · intro w9 hSw
                  try dsimp only at hSw
                  exact ex_load 3 (.tmp 40) rfl _ _ rfl (ld_3 _ _ _ _ (by rw [cell_of_row _ _ 10 _ _ _ hSw.2.1]; rfl))
                try simp only [Act.put, gA, gS, gZ, sA, sZ, sS]
                refine tk 28 (.bool false) rfl (.inl ⟨by rfl, ?_⟩) ?_
                · intro w9 hSw
                  try dsimp only at hSw
                  go_simp
                  all_goals try decide
                  all_goals try omega
                try simp only [Act.put, gA, gS, gZ, sA, sZ, sS]
                refine tk 29 (.bool false) rfl (.inl ⟨by rfl, ?_⟩) ?_
                · intro w9 hSw
                  try dsimp only at hSw
                  go_simp
                  all_goals try decide
                  all_goals try assumption
                  all_goals try omega
                try simp only [Act.put, gA, gS, gZ, sA, sZ, sS]
                refine wpAnyH_ready (rs := [30]) (by kernel_rfl) (by simp) ?_
                refine AllReadyH.cons rfl (fun K' hK => ?_) AllReadyH.nil
                rw [if_pos (by rfl)]
                simp only [gA, gS, gZ]
                refine wp_store_by 31 (.tmp 2) (.tmp 14) rfl _ _ rfl rfl (store8 _ _ C0 162 y1 y2 0 0 0 0 0 _ hR hC0) ?_
                refine hK.out _ _ (⟨below_setRow hW (by omega) _, (setRow_other _ _ _ _ (by omega)).trans hB, _, rfl, setRow_heap _ _ _ _ _ _ hR, (setRow_other _ _ _ _ (by omega)).trans hA0⟩) (fun hHeld => ?_)
                clear hK K'
                try simp only [Act.put, gA, gS, gZ, sA, sZ, sS]
                refine tk 31 (.bool false) rfl (.inl ⟨by rfl, ?_⟩) ?_
                · intro w9 hSw
                  try dsimp only at hSw
                  go_simp
                  all_goals try decide
                  all_goals try assumption
                  all_goals try omega
                try simp only [Act.put, gA, gS, gZ, sA, sZ, sS]
                refine wpAnyH_done (by kernel_rfl) ?_ _
                have hc := fun j => cell_of_row _ (w.heap.size + 1) j _ _ _ (setRow_heap _ _ _ (ar8 162 y1 y2 0 0 0 0 0) _ _ hR)
                have hb := below_setRow hW (Nat.le_succ w.heap.size) (ar8 162 y1 y2 0 0 0 0 0)
                clear hHeld hW hB hC0
                go_wp2_with fail
                refine bodyPost_ret (v := .tuple #[arr8 162 y1 y2 0 0 0 0 0, .bool false]) ?_ rfl ⟨⟨162, y1, y2, 0, 0, 0, 0, 0⟩, false, rfl, ?_, ?_⟩
                · simp [results, Try.results64, go_sem, hc]
                · exact hO.out
                · exact hb
            · obtain rfl : false = V := by rw [← e2]; simp [h0, h1, h2]
              clear e2
              go_wp2_with fail
              refine wp_region_held_drew (S := fun x => Below w.heap.size w x ∧ x.heap[w.heap.size]? = some (.cells (cmC k i s z n q a len cap t l c b e u m o) 36 (0, 0)) ∧ ∃ C : Array Value, C.size = 8 ∧ x.heap[w.heap.size + 1]? = some (.cells C 31 (0, 0)) ∧ x.heap[P]? = some (.cells (ar8 162 y1 y2 0 0 0 0 0) 31 (0, 0))) (by kernel_rfl) (⟨Below.drew hcW, (heap_drew _ _).trans hcB, ar8 0 0 0 0 0 0 0 0, rfl, (heap_drew _ _).trans hcR, (heap_drew _ _).trans hcP⟩) (fun hHeld => ?_)
              obtain ⟨hW, hB, C0, hC0, hR, hA0⟩ := id hHeld
              refine tk 0 (arr8 162 y1 y2 0 0 0 0 0) rfl (.inl ⟨by rfl, ?_⟩) ?_
              · intro w9 hSw
                try dsimp only at hSw
                obtain ⟨_, _, _, _, _, hA⟩ := hSw
                exact ex_load 31 (.tmp 4) rfl _ _ rfl (load8 _ _ _ _ _ _ _ _ _ _ _ hA)
              try simp only [Act.put, gA, gS, gZ, sA, sZ, sS]
              refine tk 1 (.pointer (some ⟨w.heap.size, 0, none⟩)) rfl (.inl ⟨by rfl, ?_⟩) ?_
              · intro w9 hSw
                try dsimp only at hSw
                go_simp
                all_goals try decide
                all_goals try assumption
                all_goals try omega
              try simp only [Act.put, gA, gS, gZ, sA, sZ, sS]
              refine tk 2 (.int .u8 k) rfl (.inl ⟨by rfl, ?_⟩) ?_
              · intro w9 hSw
                try dsimp only at hSw
                exact ex_load 5 (.tmp 15) rfl _ _ rfl (ld_5 _ _ _ _ (by rw [cell_of_row _ _ 0 _ _ _ hSw.2.1]; rfl))
              try simp only [Act.put, gA, gS, gZ, sA, sZ, sS]
              refine tk 3 (.pointer (some ⟨w.heap.size, 11, none⟩)) rfl (.inl ⟨by rfl, ?_⟩) ?_
              · intro w9 hSw
                try dsimp only at hSw
                go_simp
                all_goals try decide
                all_goals try assumption
                all_goals try omega
              try simp only [Act.put, gA, gS, gZ, sA, sZ, sS]
              refine tk 4 (.int .i64 e) rfl (.inl ⟨by rfl, ?_⟩) ?_
              · intro w9 hSw
                try dsimp only at hSw
                exact ex_load 3 (.tmp 17) rfl _ _ rfl (ld_3 _ _ _ _ (by rw [cell_of_row _ _ 11 _ _ _ hSw.2.1]; rfl))
              try simp only [Act.put, gA, gS, gZ, sA, sZ, sS]
              refine tk 5 (.pointer (some ⟨w.heap.size, 10, none⟩)) rfl (.inl ⟨by rfl, ?_⟩) ?_
              · intro w9 hSw
                try dsimp only at hSw
                go_simp
                all_goals try decide
                all_goals try assumption
                all_goals try omega
              try simp only [Act.put, gA, gS, gZ, sA, sZ, sS]
              refine tk 6 (.int .i64 b) rfl (.inl ⟨by rfl, ?_⟩) ?_
              · intro w9 hSw
                try dsimp only at hSw
                exact ex_load 3 (.tmp 19) rfl _ _ rfl (ld_3 _ _ _ _ (by rw [cell_of_row _ _ 10 _ _ _ hSw.2.1]; rfl))
              try simp only [Act.put, gA, gS, gZ, sA, sZ, sS]
              refine tk 7 (cmV k 0 0 false 0 false none 0 0 false false false b e 0 0 0) rfl (.inl ⟨by rfl, ?_⟩) ?_
              · intro w9 hSw
                try dsimp only at hSw
                go_simp
                all_goals try decide
                all_goals try assumption
                all_goals try omega
              try simp only [Act.put, gA, gS, gZ, sA, sZ, sS]
              refine tk 8 (cmV k i s z n q a len cap t l c b e u m o) rfl (.inl ⟨by rfl, ?_⟩) ?_
              · intro w9 hSw
                try dsimp only at hSw
                exact ex_load 36 (.tmp 1) rfl _ _ rfl (loadRC _ _ _ _ _ _ _ _ _ _ _ _ _ _ _ _ _ _ _ _ hSw.2.1)
              try simp only [Act.put, gA, gS, gZ, sA, sZ, sS]
              refine wpAnyH_ready (rs := [9]) (by kernel_rfl) (by simp) ?_
              refine AllReadyH.cons rfl (fun K' hK => ?_) AllReadyH.nil
              rw [if_pos (by rfl)]
              simp only [gA, gS, gZ]
              go_wp2_with fail
              refine (HS.out _ hW).mono ?_
              rintro r ww ⟨rfl, v41_0, v41_1, rfl⟩
              try go_wp2_with fail
              refine hK.out _ _ (⟨(Below.al (Below.al hW _) _), (ext_al (ext_al hB)), C0, hC0, (ext_al (ext_al hR)), (ext_al (ext_al hA0))⟩) (fun hHeld => ?_)
              clear hK K'
              try simp only [Act.put, gA, gS, gZ, sA, sZ, sS]
              clear hW hB hC0 hR hA0
              obtain ⟨hW, hB, C0, hC0, hR, hA0⟩ := id hHeld
              refine tk 10 (.bool true) rfl (.inl ⟨by rfl, ?_⟩) ?_
              · intro w9 hSw
                try dsimp only at hSw
                go_simp
                all_goals try decide
                all_goals try assumption
                all_goals try omega
              try simp only [Act.put, gA, gS, gZ, sA, sZ, sS]
              refine tk 11 (.pointer (some ⟨w.heap.size, 11, none⟩)) rfl (.inl ⟨by rfl, ?_⟩) ?_
              · intro w9 hSw
                try dsimp only at hSw
                go_simp
                all_goals try decide
                all_goals try assumption
                all_goals try omega
              try simp only [Act.put, gA, gS, gZ, sA, sZ, sS]
              refine tk 12 (.int .i64 e) rfl (.inl ⟨by rfl, ?_⟩) ?_
              · intro w9 hSw
                try dsimp only at hSw
                exact ex_load 3 (.tmp 25) rfl _ _ rfl (ld_3 _ _ _ _ (by rw [cell_of_row _ _ 11 _ _ _ hSw.2.1]; rfl))
              try simp only [Act.put, gA, gS, gZ, sA, sZ, sS]
              refine tk 13 (.bool true) rfl (.inl ⟨by rfl, ?_⟩) ?_
              · intro w9 hSw
                try dsimp only at hSw
                go_simp
                all_goals try decide
                all_goals try omega
              try simp only [Act.put, gA, gS, gZ, sA, sZ, sS]
              refine tk 14 (.bool true) rfl (.inl ⟨by rfl, ?_⟩) ?_
              · intro w9 hSw
                try dsimp only at hSw
                go_simp
                all_goals try decide
                all_goals try assumption
                all_goals try omega
              try simp only [Act.put, gA, gS, gZ, sA, sZ, sS]
              refine tk 15 (.bool true) rfl (.inl ⟨by rfl, ?_⟩) ?_
              · intro w9 hSw
                try dsimp only at hSw
                go_simp
                all_goals try decide
                all_goals try assumption
                all_goals try omega
              try simp only [Act.put, gA, gS, gZ, sA, sZ, sS]
              refine tk 16 (.pointer (some ⟨w.heap.size, 11, none⟩)) rfl (.inl ⟨by rfl, ?_⟩) ?_
              · intro w9 hSw
                try dsimp only at hSw
                go_simp
                all_goals try decide
                all_goals try assumption
                all_goals try omega
              try simp only [Act.put, gA, gS, gZ, sA, sZ, sS]
              refine tk 17 (.int .i64 e) rfl (.inl ⟨by rfl, ?_⟩) ?_
              · intro w9 hSw
                try dsimp only at hSw
                exact ex_load 3 (.tmp 30) rfl _ _ rfl (ld_3 _ _ _ _ (by rw [cell_of_row _ _ 11 _ _ _ hSw.2.1]; rfl))
              try simp only [Act.put, gA, gS, gZ, sA, sZ, sS]
              refine tk 18 (.bool true) rfl (.inl ⟨by rfl, ?_⟩) ?_
              · intro w9 hSw
                try dsimp only at hSw
                go_simp
                all_goals try decide
                all_goals try omega
              try simp only [Act.put, gA, gS, gZ, sA, sZ, sS]
              refine tk 19 (.bool true) rfl (.inl ⟨by rfl, ?_⟩) ?_
              · intro w9 hSw
                try dsimp only at hSw
                go_simp
                all_goals try decide
                all_goals try assumption
                all_goals try omega
              try simp only [Act.put, gA, gS, gZ, sA, sZ, sS]
              refine tk 20 (.bool true) rfl (.inl ⟨by rfl, ?_⟩) ?_
              · intro w9 hSw
                try dsimp only at hSw
                go_simp
                all_goals try decide
                all_goals try assumption
                all_goals try omega
              try simp only [Act.put, gA, gS, gZ, sA, sZ, sS]
              refine tk 21 (.pointer (some ⟨w.heap.size, 10, none⟩)) rfl (.inl ⟨by rfl, ?_⟩) ?_
              · intro w9 hSw
                try dsimp only at hSw
                go_simp
                all_goals try decide
                all_goals try assumption
                all_goals try omega
              try simp only [Act.put, gA, gS, gZ, sA, sZ, sS]
              refine tk 22 (.int .i64 b) rfl (.inl ⟨by rfl, ?_⟩) ?_
              · intro w9 hSw
                try dsimp only at hSw
                exact ex_load 3 (.tmp 35) rfl _ _ rfl (ld_3 _ _ _ _ (by rw [cell_of_row _ _ 10 _ _ _ hSw.2.1]; rfl))
              try simp only [Act.put, gA, gS, gZ, sA, sZ, sS]
              refine tk 23 (.bool false) rfl (.inl ⟨by rfl, ?_⟩) ?_
              · intro w9 hSw
                try dsimp only at hSw
                go_simp
                all_goals try decide
                all_goals try omega
              try simp only [Act.put, gA, gS, gZ, sA, sZ, sS]
              refine tk 24 (.bool false) rfl (.inl ⟨by rfl, ?_⟩) ?_
              · intro w9 hSw
                try dsimp only at hSw
                go_simp
                all_goals try decide
                all_goals try assumption
                all_goals try omega
              try simp only [Act.put, gA, gS, gZ, sA, sZ, sS]
              refine tk 25 (.bool false) rfl (.inl ⟨by rfl, ?_⟩) ?_
              · intro w9 hSw
                try dsimp only at hSw
                go_simp
                all_goals try decide
                all_goals try assumption
                all_goals try omega
              try simp only [Act.put, gA, gS, gZ, sA, sZ, sS]
              refine tk 26 undef rfl (.inr ⟨by rfl, rfl⟩) ?_
              try simp only [Act.put, gA, gS, gZ, sA, sZ, sS]
              refine tk 27 undef rfl (.inr ⟨by rfl, rfl⟩) ?_
              try simp only [Act.put, gA, gS, gZ, sA, sZ, sS]
              refine tk 28 undef rfl (.inr ⟨by rfl, rfl⟩) ?_
              try simp only [Act.put, gA, gS, gZ, sA, sZ, sS]
              refine tk 29 (.bool false) rfl (.inl ⟨by rfl, ?_⟩) ?_
              · intro w9 hSw
                try dsimp only at hSw
                go_simp
                all_goals try decide
                all_goals try assumption
                all_goals try omega
              try simp only [Act.put, gA, gS, gZ, sA, sZ, sS]
              refine wpAnyH_ready (rs := [30]) (by kernel_rfl) (by simp) ?_
              refine AllReadyH.cons rfl (fun K' hK => ?_) AllReadyH.nil
              rw [if_pos (by rfl)]
              simp only [gA, gS, gZ]
              refine wp_store_by 31 (.tmp 2) (.tmp 14) rfl _ _ rfl rfl (store8 _ _ C0 162 y1 y2 0 0 0 0 0 _ hR hC0) ?_
              refine hK.out _ _ (⟨below_setRow hW (by omega) _, (setRow_other _ _ _ _ (by omega)).trans hB, _, rfl, setRow_heap _ _ _ _ _ _ hR, (setRow_other _ _ _ _ (by omega)).trans hA0⟩) (fun hHeld => ?_)
              clear hK K'
              try simp only [Act.put, gA, gS, gZ, sA, sZ, sS]
              refine tk 31 (.bool false) rfl (.inl ⟨by rfl, ?_⟩) ?_
              · intro w9 hSw
                try dsimp only at hSw
                go_simp
                all_goals try decide
                all_goals try assumption
                all_goals try omega
              try simp only [Act.put, gA, gS, gZ, sA, sZ, sS]
              refine wpAnyH_done (by kernel_rfl) ?_ _
              have hc := fun j => cell_of_row _ (w.heap.size + 1) j _ _ _ (setRow_heap _ _ _ (ar8 162 y1 y2 0 0 0 0 0) _ _ hR)
              have hb := below_setRow hW (Nat.le_succ w.heap.size) (ar8 162 y1 y2 0 0 0 0 0)
              clear hHeld hW hB hC0
              go_wp2_with fail
              refine bodyPost_ret (v := .tuple #[arr8 162 y1 y2 0 0 0 0 0, .bool false]) ?_ rfl ⟨⟨162, y1, y2, 0, 0, 0, 0, 0⟩, false, rfl, ?_, ?_⟩
              · simp [results, Try.results64, go_sem, hc]
              · exact hO.out
              · exact hb
          · obtain rfl : false = V := by rw [← e2]; simp [h0, h1]
            clear e2
            go_wp2_with fail
            refine wp_region_held_drew (S := fun x => Below w.heap.size w x ∧ x.heap[w.heap.size]? = some (.cells (cmC k i s z n q a len cap t l c b e u m o) 36 (0, 0)) ∧ ∃ C : Array Value, C.size = 8 ∧ x.heap[w.heap.size + 1]? = some (.cells C 31 (0, 0)) ∧ x.heap[P]? = some (.cells (ar8 162 y1 y2 0 0 0 0 0) 31 (0, 0))) (by kernel_rfl) (⟨Below.drew hcW, (heap_drew _ _).trans hcB, ar8 0 0 0 0 0 0 0 0, rfl, (heap_drew _ _).trans hcR, (heap_drew _ _).trans hcP⟩) (fun hHeld => ?_)
            obtain ⟨hW, hB, C0, hC0, hR, hA0⟩ := id hHeld
            refine tk 0 (arr8 162 y1 y2 0 0 0 0 0) rfl (.inl ⟨by rfl, ?_⟩) ?_
            · intro w9 hSw
              try dsimp only at hSw
              obtain ⟨_, _, _, _, _, hA⟩ := hSw
              exact ex_load 31 (.tmp 4) rfl _ _ rfl (load8 _ _ _ _ _ _ _ _ _ _ _ hA)
            try simp only [Act.put, gA, gS, gZ, sA, sZ, sS]
            refine tk 1 (.pointer (some ⟨w.heap.size, 0, none⟩)) rfl (.inl ⟨by rfl, ?_⟩) ?_
            · intro w9 hSw
              try dsimp only at hSw
              go_simp
              all_goals try decide
              all_goals try assumption
              all_goals try omega
            try simp only [Act.put, gA, gS, gZ, sA, sZ, sS]
            refine tk 2 (.int .u8 k) rfl (.inl ⟨by rfl, ?_⟩) ?_
            · intro w9 hSw
              try dsimp only at hSw
              exact ex_load 5 (.tmp 15) rfl _ _ rfl (ld_5 _ _ _ _ (by rw [cell_of_row _ _ 0 _ _ _ hSw.2.1]; rfl))
            try simp only [Act.put, gA, gS, gZ, sA, sZ, sS]
            refine tk 3 (.pointer (some ⟨w.heap.size, 11, none⟩)) rfl (.inl ⟨by rfl, ?_⟩) ?_
            · intro w9 hSw
              try dsimp only at hSw
              go_simp
              all_goals try decide
              all_goals try assumption
              all_goals try omega
            try simp only [Act.put, gA, gS, gZ, sA, sZ, sS]
            refine tk 4 (.int .i64 e) rfl (.inl ⟨by rfl, ?_⟩) ?_
            · intro w9 hSw
              try dsimp only at hSw
              exact ex_load 3 (.tmp 17) rfl _ _ rfl (ld_3 _ _ _ _ (by rw [cell_of_row _ _ 11 _ _ _ hSw.2.1]; rfl))
            try simp only [Act.put, gA, gS, gZ, sA, sZ, sS]
            refine tk 5 (.pointer (some ⟨w.heap.size, 10, none⟩)) rfl (.inl ⟨by rfl, ?_⟩) ?_
            · intro w9 hSw
              try dsimp only at hSw
              go_simp
              all_goals try decide
              all_goals try assumption
              all_goals try omega
            try simp only [Act.put, gA, gS, gZ, sA, sZ, sS]
            refine tk 6 (.int .i64 b) rfl (.inl ⟨by rfl, ?_⟩) ?_
            · intro w9 hSw
              try dsimp only at hSw
              exact ex_load 3 (.tmp 19) rfl _ _ rfl (ld_3 _ _ _ _ (by rw [cell_of_row _ _ 10 _ _ _ hSw.2.1]; rfl))
            try simp only [Act.put, gA, gS, gZ, sA, sZ, sS]
            refine tk 7 (cmV k 0 0 false 0 false none 0 0 false false false b e 0 0 0) rfl (.inl ⟨by rfl, ?_⟩) ?_
            · intro w9 hSw
              try dsimp only at hSw
              go_simp
              all_goals try decide
              all_goals try assumption
              all_goals try omega
            try simp only [Act.put, gA, gS, gZ, sA, sZ, sS]
            refine tk 8 (cmV k i s z n q a len cap t l c b e u m o) rfl (.inl ⟨by rfl, ?_⟩) ?_
            · intro w9 hSw
              try dsimp only at hSw
              exact ex_load 36 (.tmp 1) rfl _ _ rfl (loadRC _ _ _ _ _ _ _ _ _ _ _ _ _ _ _ _ _ _ _ _ hSw.2.1)
            try simp only [Act.put, gA, gS, gZ, sA, sZ, sS]
            refine wpAnyH_ready (rs := [9]) (by kernel_rfl) (by simp) ?_
            refine AllReadyH.cons rfl (fun K' hK => ?_) AllReadyH.nil
            rw [if_pos (by rfl)]
            simp only [gA, gS, gZ]
            go_wp2_with fail
            refine (HS.out _ hW).mono ?_
            rintro r ww ⟨rfl, v42_0, v42_1, rfl⟩
            try go_wp2_with fail
            refine hK.out _ _ (⟨(Below.al (Below.al hW _) _), (ext_al (ext_al hB)), C0, hC0, (ext_al (ext_al hR)), (ext_al (ext_al hA0))⟩) (fun hHeld => ?_)
            clear hK K'
            try simp only [Act.put, gA, gS, gZ, sA, sZ, sS]
            clear hW hB hC0 hR hA0
            obtain ⟨hW, hB, C0, hC0, hR, hA0⟩ := id hHeld
            refine tk 10 (.bool true) rfl (.inl ⟨by rfl, ?_⟩) ?_
            · intro w9 hSw
              try dsimp only at hSw
              go_simp
              all_goals try decide
              all_goals try assumption
              all_goals try omega
            try simp only [Act.put, gA, gS, gZ, sA, sZ, sS]
            refine tk 11 (.pointer (some ⟨w.heap.size, 11, none⟩)) rfl (.inl ⟨by rfl, ?_⟩) ?_
            · intro w9 hSw
              try dsimp only at hSw
              go_simp
              all_goals try decide
              all_goals try assumption
              all_goals try omega
            try simp only [Act.put, gA, gS, gZ, sA, sZ, sS]
            refine tk 12 (.int .i64 e) rfl (.inl ⟨by rfl, ?_⟩) ?_
            · intro w9 hSw
              try dsimp only at hSw
              exact ex_load 3 (.tmp 25) rfl _ _ rfl (ld_3 _ _ _ _ (by rw [cell_of_row _ _ 11 _ _ _ hSw.2.1]; rfl))
            try simp only [Act.put, gA, gS, gZ, sA, sZ, sS]
            refine tk 13 (.bool true) rfl (.inl ⟨by rfl, ?_⟩) ?_
            · intro w9 hSw
              try dsimp only at hSw
              go_simp
              all_goals try decide
              all_goals try omega
            try simp only [Act.put, gA, gS, gZ, sA, sZ, sS]
            refine tk 14 (.bool true) rfl (.inl ⟨by rfl, ?_⟩) ?_
            · intro w9 hSw
              try dsimp only at hSw
              go_simp
              all_goals try decide
              all_goals try assumption
              all_goals try omega
            try simp only [Act.put, gA, gS, gZ, sA, sZ, sS]
            refine tk 15 (.bool true) rfl (.inl ⟨by rfl, ?_⟩) ?_
            · intro w9 hSw
              try dsimp only at hSw
              go_simp
              all_goals try decide
              all_goals try assumption
              all_goals try omega
            try simp only [Act.put, gA, gS, gZ, sA, sZ, sS]
            refine tk 16 (.pointer (some ⟨w.heap.size, 11, none⟩)) rfl (.inl ⟨by rfl, ?_⟩) ?_
            · intro w9 hSw
              try dsimp only at hSw
              go_simp
              all_goals try decide
              all_goals try assumption
              all_goals try omega
            try simp only [Act.put, gA, gS, gZ, sA, sZ, sS]
            refine tk 17 (.int .i64 e) rfl (.inl ⟨by rfl, ?_⟩) ?_
            · intro w9 hSw
              try dsimp only at hSw
              exact ex_load 3 (.tmp 30) rfl _ _ rfl (ld_3 _ _ _ _ (by rw [cell_of_row _ _ 11 _ _ _ hSw.2.1]; rfl))
            try simp only [Act.put, gA, gS, gZ, sA, sZ, sS]
            refine tk 18 (.bool false) rfl (.inl ⟨by rfl, ?_⟩) ?_
            · intro w9 hSw
              try dsimp only at hSw
              go_simp
              all_goals try decide
              all_goals try omega
            try simp only [Act.put, gA, gS, gZ, sA, sZ, sS]
            refine tk 19 (.bool false) rfl (.inl ⟨by rfl, ?_⟩) ?_
            · intro w9 hSw
              try dsimp only at hSw
              go_simp
              all_goals try decide
              all_goals try assumption
              all_goals try omega
            try simp only [Act.put, gA, gS, gZ, sA, sZ, sS]
            refine tk 20 (.bool false) rfl (.inl ⟨by rfl, ?_⟩) ?_
            · intro w9 hSw
              try dsimp only at hSw
              go_simp
              all_goals try decide
              all_goals try assumption
              all_goals try omega
            try simp only [Act.put, gA, gS, gZ, sA, sZ, sS]
            refine tk 21 undef rfl (.inr ⟨by rfl, rfl⟩) ?_
            try simp only [Act.put, gA, gS, gZ, sA, sZ, sS]
            refine tk 22 undef rfl (.inr ⟨by rfl, rfl⟩) ?_
            try simp only [Act.put, gA, gS, gZ, sA, sZ, sS]
            refine tk 23 undef rfl (.inr ⟨by rfl, rfl⟩) ?_
            try simp only [Act.put, gA, gS, gZ, sA, sZ, sS]
            refine tk 24 (.bool false) rfl (.inl ⟨by rfl, ?_⟩) ?_
            · intro w9 hSw
              try dsimp only at hSw
              go_simp
              all_goals try decide
              all_goals try assumption
              all_goals try omega
            try simp only [Act.put, gA, gS, gZ, sA, sZ, sS]
            refine tk 25 (.bool false) rfl (.inl ⟨by rfl, ?_⟩) ?_
            · intro w9 hSw
              try dsimp only at hSw
              go_simp
              all_goals try decide
              all_goals try assumption
              all_goals try omega
            try simp only [Act.put, gA, gS, gZ, sA, sZ, sS]
            refine tk 26 undef rfl (.inr ⟨by rfl, rfl⟩) ?_
            try simp only [Act.put, gA, gS, gZ, sA, sZ, sS]
            refine tk 27 undef rfl (.inr ⟨by rfl, rfl⟩) ?_
            try simp only [Act.put, gA, gS, gZ, sA, sZ, sS]
            refine tk 28 undef rfl (.inr ⟨by rfl, rfl⟩) ?_
            try simp only [Act.put, gA, gS, gZ, sA, sZ, sS]
            refine tk 29 (.bool false) rfl (.inl ⟨by rfl, ?_⟩) ?_
            · intro w9 hSw
              try dsimp only at hSw
              go_simp
              all_goals try decide
              all_goals try assumption
              all_goals try omega
            try simp only [Act.put, gA, gS, gZ, sA, sZ, sS]
            refine wpAnyH_ready (rs := [30]) (by kernel_rfl) (by simp) ?_
            refine AllReadyH.cons rfl (fun K' hK => ?_) AllReadyH.nil
            rw [if_pos (by rfl)]
            simp only [gA, gS, gZ]
            refine wp_store_by 31 (.tmp 2) (.tmp 14) rfl _ _ rfl rfl (store8 _ _ C0 162 y1 y2 0 0 0 0 0 _ hR hC0) ?_
            refine hK.out _ _ (⟨below_setRow hW (by omega) _, (setRow_other _ _ _ _ (by omega)).trans hB, _, rfl, setRow_heap _ _ _ _ _ _ hR, (setRow_other _ _ _ _ (by omega)).trans hA0⟩) (fun hHeld => ?_)
            clear hK K'
            try simp only [Act.put, gA, gS, gZ, sA, sZ, sS]
            refine tk 31 (.bool false) rfl (.inl ⟨by rfl, ?_⟩) ?_
            · intro w9 hSw
              try dsimp only at hSw
              go_simp
              all_goals try decide
              all_goals try assumption
              all_goals try omega
            try simp only [Act.put, gA, gS, gZ, sA, sZ, sS]
            refine wpAnyH_done (by kernel_rfl) ?_ _
            have hc := fun j => cell_of_row _ (w.heap.size + 1) j _ _ _ (setRow_heap _ _ _ (ar8 162 y1 y2 0 0 0 0 0) _ _ hR)
            have hb := below_setRow hW (Nat.le_succ w.heap.size) (ar8 162 y1 y2 0 0 0 0 0)
            clear hHeld hW hB hC0
            go_wp2_with fail
            refine bodyPost_ret (v := .tuple #[arr8 162 y1 y2 0 0 0 0 0, .bool false]) ?_ rfl ⟨⟨162, y1, y2, 0, 0, 0, 0, 0⟩, false, rfl, ?_, ?_⟩
            · simp [results, Try.results64, go_sem, hc]
            · exact hO.out
            · exact hb
        · obtain rfl : false = V := by rw [← e2]; simp [h0]
          clear e2
          go_wp2_with fail
          refine wp_region_held_drew (S := fun x => Below w.heap.size w x ∧ x.heap[w.heap.size]? = some (.cells (cmC k i s z n q a len cap t l c b e u m o) 36 (0, 0)) ∧ ∃ C : Array Value, C.size = 8 ∧ x.heap[w.heap.size + 1]? = some (.cells C 31 (0, 0)) ∧ x.heap[P]? = some (.cells (ar8 162 y1 y2 0 0 0 0 0) 31 (0, 0))) (by kernel_rfl) (⟨Below.drew hcW, (heap_drew _ _).trans hcB, ar8 0 0 0 0 0 0 0 0, rfl, (heap_drew _ _).trans hcR, (heap_drew _ _).trans hcP⟩) (fun hHeld => ?_)
          obtain ⟨hW, hB, C0, hC0, hR, hA0⟩ := id hHeld
          refine tk 0 (arr8 162 y1 y2 0 0 0 0 0) rfl (.inl ⟨by rfl, ?_⟩) ?_
          · intro w9 hSw
            try dsimp only at hSw
            obtain ⟨_, _, _, _, _, hA⟩ := hSw
            exact ex_load 31 (.tmp 4) rfl _ _ rfl (load8 _ _ _ _ _ _ _ _ _ _ _ hA)
          try simp only [Act.put, gA, gS, gZ, sA, sZ, sS]
          refine tk 1 (.pointer (some ⟨w.heap.size, 0, none⟩)) rfl (.inl ⟨by rfl, ?_⟩) ?_
          · intro w9 hSw
            try dsimp only at hSw
            go_simp
            all_goals try decide
            all_goals try assumption
            all_goals try omega
          try simp only [Act.put, gA, gS, gZ, sA, sZ, sS]
          refine tk 2 (.int .u8 k) rfl (.inl ⟨by rfl, ?_⟩) ?_
          · intro w9 hSw
            try dsimp only at hSw
            exact ex_load 5 (.tmp 15) rfl _ _ rfl (ld_5 _ _ _ _ (by rw [cell_of_row _ _ 0 _ _ _ hSw.2.1]; rfl))
          try simp only [Act.put, gA, gS, gZ, sA, sZ, sS]
          refine tk 3 (.pointer (some ⟨w.heap.size, 11, none⟩)) rfl (.inl ⟨by rfl, ?_⟩) ?_
          · intro w9 hSw
            try dsimp only at hSw
            go_simp
            all_goals try decide
            all_goals try assumption
            all_goals try omega
          try simp only [Act.put, gA, gS, gZ, sA, sZ, sS]
          refine tk 4 (.int .i64 e) rfl (.inl ⟨by rfl, ?_⟩) ?_
          · intro w9 hSw
            try dsimp only at hSw
            exact ex_load 3 (.tmp 17) rfl _ _ rfl (ld_3 _ _ _ _ (by rw [cell_of_row _ _ 11 _ _ _ hSw.2.1]; rfl))
          try simp only [Act.put, gA, gS, gZ, sA, sZ, sS]
          refine tk 5 (.pointer (some ⟨w.heap.size, 10, none⟩)) rfl (.inl ⟨by rfl, ?_⟩) ?_
          · intro w9 hSw
            try dsimp only at hSw
            go_simp
            all_goals try decide
            all_goals try assumption
            all_goals try omega
          try simp only [Act.put, gA, gS, gZ, sA, sZ, sS]
          refine tk 6 (.int .i64 b) rfl (.inl ⟨by rfl, ?_⟩) ?_
          · intro w9 hSw
            try dsimp only at hSw
            exact ex_load 3 (.tmp 19) rfl _ _ rfl (ld_3 _ _ _ _ (by rw [cell_of_row _ _ 10 _ _ _ hSw.2.1]; rfl))
          try simp only [Act.put, gA, gS, gZ, sA, sZ, sS]
          refine tk 7 (cmV k 0 0 false 0 false none 0 0 false false false b e 0 0 0) rfl (.inl ⟨by rfl, ?_⟩) ?_
          · intro w9 hSw
            try dsimp only at hSw
            go_simp
            all_goals try decide
            all_goals try assumption
            all_goals try omega
          try simp only [Act.put, gA, gS, gZ, sA, sZ, sS]
          refine tk 8 (cmV k i s z n q a len cap t l c b e u m o) rfl (.inl ⟨by rfl, ?_⟩) ?_
          · intro w9 hSw
            try dsimp only at hSw
            exact ex_load 36 (.tmp 1) rfl _ _ rfl (loadRC _ _ _ _ _ _ _ _ _ _ _ _ _ _ _ _ _ _ _ _ hSw.2.1)
          try simp only [Act.put, gA, gS, gZ, sA, sZ, sS]
          refine wpAnyH_ready (rs := [9]) (by kernel_rfl) (by simp) ?_
          refine AllReadyH.cons rfl (fun K' hK => ?_) AllReadyH.nil
          rw [if_pos (by rfl)]
          simp only [gA, gS, gZ]
          go_wp2_with fail
          refine (HS.out _ hW).mono ?_
          rintro r ww ⟨rfl, v43_0, v43_1, rfl⟩
          try go_wp2_with fail
          refine hK.out _ _ (⟨(Below.al (Below.al hW _) _), (ext_al (ext_al hB)), C0, hC0, (ext_al (ext_al hR)), (ext_al (ext_al hA0))⟩) (fun hHeld => ?_)
          clear hK K'
          try simp only [Act.put, gA, gS, gZ, sA, sZ, sS]
          clear hW hB hC0 hR hA0
          obtain ⟨hW, hB, C0, hC0, hR, hA0⟩ := id hHeld
          refine tk 10 (.bool true) rfl (.inl ⟨by rfl, ?_⟩) ?_
          · intro w9 hSw
            try dsimp only at hSw
            go_simp
            all_goals try decide
            all_goals try assumption
            all_goals try omega
          try simp only [Act.put, gA, gS, gZ, sA, sZ, sS]
          refine tk 11 (.pointer (some ⟨w.heap.size, 11, none⟩)) rfl (.inl ⟨by rfl, ?_⟩) ?_
          · intro w9 hSw
            try dsimp only at hSw
            go_simp
            all_goals try decide
            all_goals try assumption
            all_goals try omega
          try simp only [Act.put, gA, gS, gZ, sA, sZ, sS]
          refine tk 12 (.int .i64 e) rfl (.inl ⟨by rfl, ?_⟩) ?_
          · intro w9 hSw
            try dsimp only at hSw
            exact ex_load 3 (.tmp 25) rfl _ _ rfl (ld_3 _ _ _ _ (by rw [cell_of_row _ _ 11 _ _ _ hSw.2.1]; rfl))
          try simp only [Act.put, gA, gS, gZ, sA, sZ, sS]
          refine tk 13 (.bool false) rfl (.inl ⟨by rfl, ?_⟩) ?_
          · intro w9 hSw
            try dsimp only at hSw
            go_simp
            all_goals try decide
            all_goals try omega
          try simp only [Act.put, gA, gS, gZ, sA, sZ, sS]
          refine tk 14 (.bool false) rfl (.inl ⟨by rfl, ?_⟩) ?_
          · intro w9 hSw
            try dsimp only at hSw
            go_simp
            all_goals try decide
            all_goals try assumption
            all_goals try omega
          try simp only [Act.put, gA, gS, gZ, sA, sZ, sS]
          refine tk 15 (.bool false) rfl (.inl ⟨by rfl, ?_⟩) ?_
          · intro w9 hSw
            try dsimp only at hSw
            go_simp
            all_goals try decide
            all_goals try assumption
            all_goals try omega
          try simp only [Act.put, gA, gS, gZ, sA, sZ, sS]
          refine tk 16 undef rfl (.inr ⟨by rfl, rfl⟩) ?_
          try simp only [Act.put, gA, gS, gZ, sA, sZ, sS]
          refine tk 17 undef rfl (.inr ⟨by rfl, rfl⟩) ?_
          try simp only [Act.put, gA, gS, gZ, sA, sZ, sS]
          refine tk 18 undef rfl (.inr ⟨by rfl, rfl⟩) ?_
          try simp only [Act.put, gA, gS, gZ, sA, sZ, sS]
          refine tk 19 (.bool false) rfl (.inl ⟨by rfl, ?_⟩) ?_
          · intro w9 hSw
            try dsimp only at hSw
            go_simp
            all_goals try decide
            all_goals try assumption
            all_goals try omega
          try simp only [Act.put, gA, gS, gZ, sA, sZ, sS]
          refine tk 20 (.bool false) rfl (.inl ⟨by rfl, ?_⟩) ?_
          · intro w9 hSw
            try dsimp only at hSw
            go_simp
            all_goals try decide
            all_goals try assumption
            all_goals try omega
          try simp only [Act.put, gA, gS, gZ, sA, sZ, sS]
          refine tk 21 undef rfl (.inr ⟨by rfl, rfl⟩) ?_
          try simp only [Act.put, gA, gS, gZ, sA, sZ, sS]
          refine tk 22 undef rfl (.inr ⟨by rfl, rfl⟩) ?_
          try simp only [Act.put, gA, gS, gZ, sA, sZ, sS]
          refine tk 23 undef rfl (.inr ⟨by rfl, rfl⟩) ?_
          try simp only [Act.put, gA, gS, gZ, sA, sZ, sS]
          refine tk 24 (.bool false) rfl (.inl ⟨by rfl, ?_⟩) ?_
          · intro w9 hSw
            try dsimp only at hSw
            go_simp
            all_goals try decide
            all_goals try assumption
            all_goals try omega
          try simp only [Act.put, gA, gS, gZ, sA, sZ, sS]
          refine tk 25 (.bool false) rfl (.inl ⟨by rfl, ?_⟩) ?_
          · intro w9 hSw
            try dsimp only at hSw
            go_simp
            all_goals try decide
            all_goals try assumption
            all_goals try omega
          try simp only [Act.put, gA, gS, gZ, sA, sZ, sS]
          refine tk 26 undef rfl (.inr ⟨by rfl, rfl⟩) ?_
          try simp only [Act.put, gA, gS, gZ, sA, sZ, sS]
          refine tk 27 undef rfl (.inr ⟨by rfl, rfl⟩) ?_
          try simp only [Act.put, gA, gS, gZ, sA, sZ, sS]
          refine tk 28 undef rfl (.inr ⟨by rfl, rfl⟩) ?_
          try simp only [Act.put, gA, gS, gZ, sA, sZ, sS]
          refine tk 29 (.bool false) rfl (.inl ⟨by rfl, ?_⟩) ?_
          · intro w9 hSw
            try dsimp only at hSw
            go_simp
            all_goals try decide
            all_goals try assumption
            all_goals try omega
          try simp only [Act.put, gA, gS, gZ, sA, sZ, sS]
          refine wpAnyH_ready (rs := [30]) (by kernel_rfl) (by simp) ?_
          refine AllReadyH.cons rfl (fun K' hK => ?_) AllReadyH.nil
          rw [if_pos (by rfl)]
          simp only [gA, gS, gZ]
          refine wp_store_by 31 (.tmp 2) (.tmp 14) rfl _ _ rfl rfl (store8 _ _ C0 162 y1 y2 0 0 0 0 0 _ hR hC0) ?_
          refine hK.out _ _ (⟨below_setRow hW (by omega) _, (setRow_other _ _ _ _ (by omega)).trans hB, _, rfl, setRow_heap _ _ _ _ _ _ hR, (setRow_other _ _ _ _ (by omega)).trans hA0⟩) (fun hHeld => ?_)
          clear hK K'
          try simp only [Act.put, gA, gS, gZ, sA, sZ, sS]
          refine tk 31 (.bool false) rfl (.inl ⟨by rfl, ?_⟩) ?_
          · intro w9 hSw
            try dsimp only at hSw
            go_simp
            all_goals try decide
            all_goals try assumption
            all_goals try omega
          try simp only [Act.put, gA, gS, gZ, sA, sZ, sS]
          refine wpAnyH_done (by kernel_rfl) ?_ _
          have hc := fun j => cell_of_row _ (w.heap.size + 1) j _ _ _ (setRow_heap _ _ _ (ar8 162 y1 y2 0 0 0 0 0) _ _ hR)
          have hb := below_setRow hW (Nat.le_succ w.heap.size) (ar8 162 y1 y2 0 0 0 0 0)
          clear hHeld hW hB hC0
          go_wp2_with fail
          refine bodyPost_ret (v := .tuple #[arr8 162 y1 y2 0 0 0 0 0, .bool false]) ?_ rfl ⟨⟨162, y1, y2, 0, 0, 0, 0, 0⟩, false, rfl, ?_, ?_⟩
          · simp [results, Try.results64, go_sem, hc]
          · exact hO.out
          · exact hb
#print axioms racked_any
end Go.Proofs.Ytlnlejdjekbipaa
