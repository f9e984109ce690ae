/-
  New, Count, Pick; Send, Next and Waits of a bus beside what has come of it.
-/
import Derived.Test.YtndlpjfofjikeaaCb4
namespace Go.Proofs.Ytndlpjfofjikeaa
open Go.RowKit

/-- A number brought from 0 up to another. -/
def pickN (x k : Int) : Int := (x.tmod k + k).tmod k
theorem pickN_in (x k : Int) (h : 0 < k) : 0 ≤ pickN x k ∧ pickN x k < k := by
  unfold pickN
  have h1 := Int.lt_tmod_of_pos x h
  refine ⟨Int.tmod_nonneg _ (by omega), Int.tmod_lt_of_pos _ h⟩

set_option linter.unusedSimpArgs false in
set_option maxHeartbeats 4000000 in
set_option maxRecDepth 100000 in
theorem pick_any (x k : Int) (h0 : 0 < k) (h1 : k ≤ 100000) (w : World) : Calls Try.prog 7 #[.int .i64 x, .int .i64 k] w fun e w' => e = .returned (.int .i64 (pickN x k)) ∧ w' = w := by
  have a1 := Int.lt_tmod_of_pos x h0
  have a2 := Int.tmod_lt_of_pos x h0
  have g1 : ¬ k ≤ 0 := by omega
  have g2 : ¬ k = 0 := by omega
  obtain ⟨m, hm⟩ : ∃ m, m = x.tmod k := ⟨_, rfl⟩
  have hq := pickN_in x k h0
  have w2 : IntKind.i64.wrap (x.tmod k + k) = m + k := by rw [← hm, IntKind.wrap_i64]; rw [← hm] at a1 a2; omega
  obtain ⟨q, hq2⟩ : ∃ q, q = pickN x k := ⟨_, rfl⟩
  have w3 : (m + k).tmod k = q := by rw [hq2, hm]; rfl
  rw [← hq2] at hq ⊢
  have w1 : IntKind.i64.wrap m = m := by rw [← hm] at a1 a2; rw [IntKind.wrap_i64]; omega
  have w1' : IntKind.i64.wrap (x.tmod k) = m := by rw [← hm]; exact w1
  have w4 : IntKind.i64.wrap q = q := by rw [IntKind.wrap_i64]; omega
  have w5 : IntKind.i64.wrap (m + k) = m + k := by rw [← hm] at w2; exact w2
  rw [← hm] at w2
  clear hq2 a1 a2
  go_enter Try.func7, Try.ntmps7
  go_wp2_with fail
  go_ret
  refine ⟨?_, rfl⟩
  rw [show wrap64 (x.tmod k + k) = m + k from by rw [← hm]; exact (IntWalk.i64_left _).symm.trans w2, w3]
  rfl
#print axioms pick_any

set_option linter.unusedSimpArgs false in
set_option maxHeartbeats 4000000 in
set_option maxRecDepth 100000 in
theorem new_any (w : World) : Calls Try.prog 9 #[] w fun e w' => e = .returned (.pointer (some ⟨w.heap.size, 0, none⟩)) ∧ Ev w w' w.heap.size (.slice none 0 0) (.slice none 0 0) [] [] 0 := by
  go_enter Try.func9, Try.ntmps9
  go_wp2_with fail
  go_ret
  exact ⟨rfl, ⟨heap_alloc_last w _, ⟨by simp [flat], .inl ⟨rfl, rfl⟩⟩, trivial⟩, ⟨by simp [flat], .inl ⟨rfl, rfl⟩⟩, fun k h => by simp [Value.ownBlock] at h, Nat.le_refl _, Below.al (Below.refl _ _) _, fun k _ h => by simp at h, Once.zero⟩

set_option linter.unusedSimpArgs false in
set_option maxHeartbeats 4000000 in
set_option maxRecDepth 100000 in
theorem count_any {w : World} {base p : Nat} {v : Value} {l : List Sn} {ct : Int} (h : IsB w base p v l ct) : Calls Try.prog 18 #[.pointer (some ⟨p, 0, none⟩)] w fun e w' => e = .returned (.int .i64 ct) ∧ w' = w := by
  have k1 := h.c1
  clear h
  go_enter Try.func18, Try.ntmps18
  go_wp2_with fail
  go_ret
  exact ⟨rfl, rfl⟩
theorem val_nil {w : World} {base : Nat} {v : Value} (h : IsL w base v []) : ∃ a c, v = .slice a 0 c ∧ (a = none → c = 0) := by
  rcases h.form with ⟨h1, _⟩ | ⟨g, cap, _, h1, _⟩
  · exact ⟨none, 0, h1, fun _ => rfl⟩
  · exact ⟨_, cap, h1, fun e => by cases e⟩
/-- Taken from a bus, and not yet put behind what has come. -/
structure Tk (w0 w : World) (p : Nat) (v cv : Value) (m C : List Sn) (n : Nat) (x : Sn) : Prop where
  b : IsB w (p + 1) p v m (n : Int)
  c : IsL w (p + 1) cv C
  d : ∀ k, cv.ownBlock = some k → v.ownBlock ≠ some k
  hp : w0.heap.size ≤ p
  bel : Below w0.heap.size w0 w
  hh : Heap m m.length
  o : Once (C ++ [x]) m n
  lst : ∀ y ∈ m, le x y
theorem Tk.next {w0 w w' : World} {p : Nat} {v cv : Value} {m C : List Sn} {n : Nat} {x : Sn} (h : Tk w0 w p v cv m C n x) (k : Below w.heap.size w w') : Tk w0 w' p v cv m C n x :=
  ⟨h.b.next k, isL_same h.c (fun i hi => k.block i (h.c.lt i hi).2), h.d, h.hp, Below.andThen h.bel k, h.hh, h.o, h.lst⟩
theorem next_ev {w0 w : World} {p : Nat} {v cv : Value} {l C : List Sn} {n : Nat} (h : Ev w0 w p v cv l C n) (hn : n ≤ 1000) :
    Calls Try.prog 14 #[.pointer (some ⟨p, 0, none⟩)] w fun e w' => (l = [] ∧ e = .returned (.tuple #[.agg #[.int .i64 0, .int .u16 0, .int .i64 0, .int .u8 0, .int .u8 0, .int .u8 0, .int .u8 0, .int .u8 0, .int .u8 0, .int .u8 0, .int .u8 0, .bool false, .int .i64 0], .bool false]) ∧ Below w.heap.size w w') ∨ (∃ x v' m, e = .returned (.tuple #[.agg x.A, .bool true]) ∧ Tk w0 w' p v' cv m C n x ∧ m.length < l.length ∧ w.heap.size ≤ w'.heap.size) := by
  by_cases hl : l = []
  · subst hl
    obtain ⟨a, c, rfl, _⟩ := val_nil h.b.own
    exact (next_none h.b).mono (fun e w' hq => .inl ⟨rfl, hq.1, hq.2⟩)
  · obtain ⟨N, hN⟩ : ∃ N, l.length = N + 1 := ⟨l.length - 1, by have := List.length_pos_iff.2 hl; omega⟩
    obtain ⟨g, cap, rfl⟩ := h.b.own.some hl
    have hlen := h.o.len
    rw [hN] at h
    have hh := h.hh
    rw [hN] at hh
    refine (next_any h.b hN (by omega) hh).mono (fun e w' hq => .inr ?_)
    obtain ⟨q1, ⟨m, q2, q3, q4, q5⟩, q6⟩ := hq
    obtain ⟨t1, t2, t3, t4⟩ := h.take q3 q6
    refine ⟨at_ l 0, _, m, q1, ⟨q5, t1, fun k hk e => t2 k hk (by simp [Value.ownBlock] at e; exact e.symm), h.hp, t3, by rw [q2]; exact q4, t4, fun y hy => h.hh.least (q3.mem_iff.1 (List.mem_append_left _ hy))⟩, by omega, q6.size⟩
#print axioms next_ev
theorem send_ev {w0 w : World} {p : Nat} {v cv : Value} {l C : List Sn} {n : Nat} (h : Ev w0 w p v cv l C n) (hn : n ≤ 1000) (y : Sn) (hy : y.nm = n) (ho : Oct [y.d0, y.d1, y.d2, y.d3, y.d4, y.d5, y.d6, y.d7]) :
    Calls Try.prog 15 #[.pointer (some ⟨p, 0, none⟩), .int .i64 y.nd, .agg #[.int .u16 y.i, .int .i64 y.n, .int .u8 y.d0, .int .u8 y.d1, .int .u8 y.d2, .int .u8 y.d3, .int .u8 y.d4, .int .u8 y.d5, .int .u8 y.d6, .int .u8 y.d7, .bool y.r]] w fun e w' => (∃ E : Int, e = .returned (.int .i64 E) ∧ ¬ E = 0 ∧ Ev w0 w' p v cv l C n) ∨ (∃ v' l', e = .returned (.int .i64 0) ∧ Ev w0 w' p v' cv l' C (n + 1)) := by
  by_cases he : sndE y.nd y.ok l.length = 0
  · refine (send_okW (by rw [hy]; exact h.b) h.lt ho he h.hh (by omega) (by omega)).mono (fun e w' hq => .inr ?_)
    obtain ⟨q1, ⟨v', l', ⟨q2, q3, q4⟩, q5⟩, q6⟩ := hq
    exact ⟨v', l', q1, h.send hy q2 q3 q4 q5 q6⟩
  · exact (send_bad h.b ho he).mono (fun e w' hq => .inl ⟨_, hq.1, he, h.next hq.2⟩)
#print axioms send_ev
theorem waits_any {w : World} {base p : Nat} {v : Value} {l : List Sn} {ct : Int} (h : IsB w base p v l ct) (hl2 : l.length ≤ 1000000) :
    Calls Try.prog 17 #[.pointer (some ⟨p, 0, none⟩)] w fun e w' => (∃ a c m, e = .returned (.slice a l.length c) ∧ (0 < l.length → ∃ g, a = some ⟨g, 0, none⟩ ∧ IsL w' w.heap.size (.slice (some ⟨g, 0, none⟩) l.length c) m) ∧ m.Perm l ∧ InOrder m) ∧ Below w.heap.size w w' := by
  by_cases hl : l = []
  · subst hl
    obtain ⟨a, c, rfl, hc⟩ := val_nil h.own
    refine (waits_zero a c hc h.c0).mono (fun e w' hq => ?_)
    obtain ⟨⟨a', c', q1⟩, q2⟩ := hq
    exact ⟨⟨a', c', [], q1, fun e => absurd e (by decide), List.Perm.refl _, small_order [] (by decide)⟩, q2⟩
  · obtain ⟨g, cap, rfl⟩ := h.own.some hl
    refine (waits_some h hl hl2).mono (fun e w' hq => ?_)
    obtain ⟨⟨g', c', m, q1, _, q3, q4, q5⟩, q6⟩ := hq
    exact ⟨⟨_, c', m, q1, fun _ => ⟨g', rfl, q3⟩, q4, q5⟩, q6⟩
#print axioms waits_any
/-- A row's cells. -/
theorem IsL.cell {w : World} {base g cap : Nat} {l : List Sn} (h : IsL w base (.slice (.some ⟨g, 0, none⟩) l.length cap) l) (i : Nat) (x : Sn) (hx : l[i]? = .some x) (j : Nat) (u : Value) (hu : x.L[j]? = .some u) : w.cell? ⟨g, i * 13 + j, none⟩ = .some u := by
  have hi : i < l.length := (List.getElem?_eq_some_iff.1 hx).1
  have hj : j < 13 := by have := (List.getElem?_eq_some_iff.1 hu).1; rw [Sn.L_len] at this; exact this
  have := World.ownsRow.cells h (g := g) rfl (i * 13 + j) u (by
    have e := flat_at l i x hx
    rw [← e] at hu
    rw [List.getElem?_take, if_pos hj, List.getElem?_drop] at hu
    exact hu)
  rw [Addr.add_lit, Nat.zero_add] at this
  exact this
#print axioms IsL.cell
end Go.Proofs.Ytndlpjfofjikeaa
