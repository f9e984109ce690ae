/-
  Gone: nothing of a node waits any longer.
-/
import Derived.Test.YtndlpjfofjikeaaCr4
import Derived.Test.YtndlpjfofjikeaaCa4
namespace Go.Proofs.Ytndlpjfofjikeaa
open Go.RowKit


set_option linter.unusedSimpArgs false in
set_option maxHeartbeats 4000000 in
set_option maxRecDepth 100000 in
theorem idx_zero (a : Option Addr) (c q : Nat) (w : World) : Calls Try.prog 44 #[.slice a 0 c, .func (.func 38) #[] #[.pointer (some ⟨q, 0, none⟩)]] w fun e w' => e = .returned (.int .i64 (-1)) ∧ w' = w := by
  go_enter Try.func44, Try.ntmps44
  go_wp2_with fail
  go_loopw [8] (fun u vr => u = .int .i64 0 ∧ vr = w) (fun _ _ => 0)
  case atStart => exact ⟨rfl, rfl⟩
  case round =>
    obtain ⟨rfl, rfl⟩ := hrel
    go_wp2_with fail
    go_ret
    exact ⟨rfl, rfl⟩

set_option linter.unusedSimpArgs false in
set_option maxHeartbeats 4000000 in
set_option maxRecDepth 100000 in
theorem del_zero (a : Option Addr) (c q : Nat) (w : World) : Calls Try.prog 37 #[.slice a 0 c, .func (.func 38) #[] #[.pointer (some ⟨q, 0, none⟩)]] w fun e w' => e = .returned (.slice a 0 c) ∧ w' = w := by
  have IX := idx_zero a c q w
  go_enter Try.func37, Try.ntmps37
  go_wp2_with fail
  refine IX.mono ?_
  rintro e z ⟨rfl, rfl⟩
  clear IX
  go_wp2_with fail
  go_ret
  exact ⟨rfl, rfl⟩
theorem isB_row {w w' : World} {base p g n n' cap : Nat} {l l' : List Sn} {ct : Int} (h : IsB w base p (.slice (some ⟨g, 0, none⟩) n cap) l ct) (k : Kp [g] w w') (hl : IsL w' base (.slice (some ⟨g, 0, none⟩) n' cap) l') : IsB (w'.setCell ⟨p, 0, none⟩ (.slice (some ⟨g, 0, none⟩) n' cap)) base p (.slice (some ⟨g, 0, none⟩) n' cap) l' ct := by
  have hg := h.old.1
  have hh : w'.heap[p]? = some (.cells #[.slice (some ⟨g, 0, none⟩) n cap, .int .i64 ct] 61 (0, 0)) := (k.block p (lt_of_heap h.head) (by have := h.ne; simp; omega)).trans h.head
  exact ⟨by rw [heap_setCell_same w' p 0 _ _ _ hh]; rfl, isL_setp hh hl, trivial⟩

set_option linter.unusedSimpArgs false in
set_option maxHeartbeats 4000000 in
set_option maxRecDepth 100000 in
theorem drop_some {w : World} {base p g cap : Nat} {l : List Sn} {ct : Int} (h : IsB w base p (.slice (some ⟨g, 0, none⟩) l.length cap) l ct) (hl : l.length ≤ 100000) (nd : Int) :
    Calls Try.prog 28 #[.pointer (some ⟨p, 0, none⟩), .int .i64 nd] w fun e w' => e = .returned (.int .i64 ((l.length : Int) - ((l.filter (keepB nd)).length : Int))) ∧ (∃ l', l'.length = (l.filter (keepB nd)).length ∧ l'.Perm (l.filter (keepB nd)) ∧ Heap l' l'.length ∧ IsB w' base p (.slice (some ⟨g, 0, none⟩) (l.filter (keepB nd)).length cap) l' ct) ∧ Kp [p, g] w w' := by
  obtain ⟨FF, hFF⟩ : ∃ FF, Hid (FF = l.filter (keepB nd)) := ⟨_, rfl⟩
  have hFl : FF.length ≤ l.length := by rw [hFF.out]; exact List.length_filter_le _ _
  have hp := lt_of_heap h.head
  have hg := h.old
  have hx : Below w.heap.size w (w.alloc (.cells #[.int .i64 nd] 3)) := Below.al (Below.refl _ _) _
  have H1 := h.next hx
  have k0 := H1.c0
  obtain ⟨N, hN⟩ : ∃ N, Hid (N = l.length) := ⟨_, rfl⟩
  obtain ⟨n, hn⟩ : ∃ n, Hid (n = FF.length) := ⟨_, rfl⟩
  rw [← hN.out] at H1 k0
  rw [← hFF.out, ← hN.out, ← hn.out]
  have HL := len_any (some ⟨g, 0, none⟩) N cap (w.alloc (.cells #[.int .i64 nd] 3))
  have cq : (w.alloc (.cells #[.int .i64 nd] 3)).cell? ⟨w.heap.size, 0, none⟩ = some (.int .i64 nd) := by rw [World.cell?_alloc_new]; rfl
  have DL := del_any (N := N) H1.own hN.out.symm (by rw [hN.out]; exact hl) cq (by omega)
  rw [← hFF.out, ← hn.out] at DL
  have GR : Hid (∀ z, Kp [g] (w.alloc (.cells #[.int .i64 nd] 3)) z → IsL z base (.slice (some ⟨g, 0, none⟩) n cap) FF → z.cell? ⟨p, 0, none⟩ = some (.slice (some ⟨g, 0, none⟩) N cap) ∧ z.frozen? ⟨p, 0, none⟩ = false ∧ Hid (IsB (z.setCell ⟨p, 0, none⟩ (.slice (some ⟨g, 0, none⟩) n cap)) base p (.slice (some ⟨g, 0, none⟩) n cap) FF ct) ∧ Hid (Kp [p, g] w (z.setCell ⟨p, 0, none⟩ (.slice (some ⟨g, 0, none⟩) n cap)))) := fun z kz hz => by
    have hh : z.heap[p]? = some (.cells #[.slice (some ⟨g, 0, none⟩) N cap, .int .i64 ct] 61 (0, 0)) := (kz.block p (lt_of_heap H1.head) (by have := H1.ne; simp; omega)).trans H1.head
    refine ⟨by rw [cell_of_row z p 0 _ _ _ hh]; rfl, frozen_of_row z p 0 _ _ hh, isB_row H1 kz hz, ?_⟩
    exact (((Kp.of hx).trans (kz.more (by intro k hk; simp at hk; simp [hk]))).set _ _ (.inl (by simp)))
  have wsub : IntKind.i64.wrap ((N : Int) - (n : Int)) = (N : Int) - (n : Int) := by have := hN.out; have := hn.out; rw [IntKind.wrap_i64]; omega
  have hn1 : n ≤ 100000 := by have := hn.out; omega
  clear h H1 cq hx
  go_enter Try.func28, Try.ntmps28
  go_wp2_with fail
  refine HL.mono ?_
  rintro e z0 ⟨rfl, rfl⟩
  clear HL
  go_wp2_with fail
  refine DL.mono ?_
  rintro e z1 ⟨rfl, L1, k1⟩
  obtain ⟨c1, f1, B1, K1⟩ := GR.out z1 k1 L1
  clear DL GR L1 k1 k0
  have IN := init_any B1.out hn.out.symm hn1
  go_wp2_with fail
  refine IN.mono ?_
  rintro e z2 ⟨rfl, ⟨l', q1, q2, q3, q4⟩, k2⟩
  have c2 := q4.c0
  have HL2 := len_any (some ⟨g, 0, none⟩) n cap z2
  have RES : Hid ((∃ l', l'.length = n ∧ l'.Perm FF ∧ Heap l' l'.length ∧ IsB z2 base p (.slice (some ⟨g, 0, none⟩) n cap) l' ct) ∧ Kp [p, g] w z2) := ⟨⟨l', q1, q2, by rw [q1]; exact q3, q4⟩, K1.out.trans (k2.more (by intro k hk; simp at hk; simp [hk]))⟩
  clear IN q1 q2 q3 q4 k2 B1 K1 c1 f1
  go_wp2_with fail
  refine HL2.mono ?_
  rintro e z3 ⟨rfl, rfl⟩
  clear HL2
  go_wp2_with fail
  go_ret
  exact ⟨rfl, RES.out⟩
#print axioms drop_some

set_option linter.unusedSimpArgs false in
set_option maxHeartbeats 4000000 in
set_option maxRecDepth 100000 in
theorem drop_none {w : World} {base p cap : Nat} {a : Option Addr} {ct : Int} (h : IsB w base p (.slice a 0 cap) [] ct) (nd : Int) :
    Calls Try.prog 28 #[.pointer (some ⟨p, 0, none⟩), .int .i64 nd] w fun e w' => e = .returned (.int .i64 0) ∧ IsB w' base p (.slice a 0 cap) [] ct ∧ Kp [p] w w' := by
  have hp := lt_of_heap h.head
  have hx : Below w.heap.size w (w.alloc (.cells #[.int .i64 nd] 3)) := Below.al (Below.refl _ _) _
  have H1 := h.next hx
  have k0 := H1.c0
  have f0 := H1.fz 0
  have HL := len_any a 0 cap (w.alloc (.cells #[.int .i64 nd] 3))
  have DL := del_zero a cap w.heap.size (w.alloc (.cells #[.int .i64 nd] 3))
  have H2 := (h.set0 h.own).next (Below.al (Below.refl _ _) (.cells #[.int .i64 nd] 3))
  have IN := init_zero H2
  have c2 := H2.c0
  have HL2 := len_any a 0 cap ((w.setCell ⟨p, 0, none⟩ (.slice a 0 cap)).alloc (.cells #[.int .i64 nd] 3))
  have RES : Hid (IsB ((w.setCell ⟨p, 0, none⟩ (.slice a 0 cap)).alloc (.cells #[.int .i64 nd] 3)) base p (.slice a 0 cap) [] ct ∧ Kp [p] w ((w.setCell ⟨p, 0, none⟩ (.slice a 0 cap)).alloc (.cells #[.int .i64 nd] 3))) := ⟨H2, ((Kp.refl [p] w).set _ _ (.inl (by simp))).al _⟩
  clear h H1 H2 hx
  go_enter Try.func28, Try.ntmps28
  go_wp2_with fail
  refine HL.mono ?_
  rintro e z0 ⟨rfl, rfl⟩
  clear HL
  go_wp2_with fail
  refine DL.mono ?_
  rintro e z1 ⟨rfl, rfl⟩
  clear DL
  go_wp2_with fail
  refine IN.mono ?_
  rintro e z2 ⟨rfl, rfl⟩
  clear IN
  go_wp2_with fail
  refine HL2.mono ?_
  rintro e z3 ⟨rfl, rfl⟩
  clear HL2
  go_wp2_with fail
  go_ret
  exact ⟨rfl, RES.out⟩
#print axioms drop_none

set_option linter.unusedSimpArgs false in
set_option maxHeartbeats 4000000 in
set_option maxRecDepth 100000 in
theorem gone_any {w : World} {base p : Nat} {v : Value} {l : List Sn} {ct : Int} (h : IsB w base p v l ct) (hl : l.length ≤ 100000) (nd : Int) :
    Calls Try.prog 16 #[.pointer (some ⟨p, 0, none⟩), .int .i64 nd] w fun e w' => e = .returned (.int .i64 ((l.length : Int) - ((l.filter (keepB nd)).length : Int))) ∧ (∃ v' l', l'.Perm (l.filter (keepB nd)) ∧ Heap l' l'.length ∧ v'.ownBlock = v.ownBlock ∧ IsB w' base p v' l' ct) ∧ Kz p v.ownBlock w w' := by
  have DR : Calls Try.prog 28 #[.pointer (some ⟨p, 0, none⟩), .int .i64 nd] w fun e w' => e = .returned (.int .i64 ((l.length : Int) - ((l.filter (keepB nd)).length : Int))) ∧ (∃ v' l', l'.Perm (l.filter (keepB nd)) ∧ Heap l' l'.length ∧ v'.ownBlock = v.ownBlock ∧ IsB w' base p v' l' ct) ∧ Kz p v.ownBlock w w' := by
    by_cases hl0 : l = []
    · subst hl0
      obtain ⟨a, c, rfl, _⟩ := val_nil h.own
      refine (drop_none h nd).mono (fun e w' hq => ?_)
      obtain ⟨q1, q2, q3⟩ := hq
      exact ⟨q1, ⟨_, [], List.Perm.refl _, (fun k _ hk => by simp at hk), rfl, q2⟩, ⟨q3.os, q3.tape, q3.output, q3.size, fun k hk hp _ => q3.block k hk (by simpa using hp)⟩⟩
    · obtain ⟨g, cap, rfl⟩ := h.own.some hl0
      refine (drop_some h hl nd).mono (fun e w' hq => ?_)
      obtain ⟨q1, ⟨l', _, q2, q3, q4⟩, q5⟩ := hq
      exact ⟨q1, ⟨.slice (some ⟨g, 0, none⟩) (l.filter (keepB nd)).length cap, l', q2, q3, rfl, q4⟩, ⟨q5.os, q5.tape, q5.output, q5.size, fun k hk hp hr => q5.block k hk (by
        simp only [List.mem_cons, List.not_mem_nil, or_false]
        rintro (e | e)
        · exact hp e
        · exact hr (by rw [e]; rfl))⟩⟩
  generalize ((l.length : Int) - ((l.filter (keepB nd)).length : Int)) = R at *
  clear h
  go_enter Try.func16, Try.ntmps16
  go_wp2_with fail
  refine DR.mono ?_
  rintro e z ⟨rfl, q2, q3⟩
  have RES : Hid _ := And.intro q2 q3
  clear DR q2 q3
  go_wp2_with fail
  go_ret
  exact ⟨rfl, RES.out⟩
#print axioms gone_any
end Go.Proofs.Ytndlpjfofjikeaa
