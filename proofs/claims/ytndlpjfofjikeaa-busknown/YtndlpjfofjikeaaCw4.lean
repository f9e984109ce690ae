/-
  A bus and the document's, side by side.
-/
import Derived.Test.YtndlpjfofjikeaaCv4
namespace Go.Proofs.Ytndlpjfofjikeaa
open Go.RowKit

/-- The document's bus is left alone by what touches the program's. -/
theorem isD_kz {w w' : World} {pa p : Nat} {base : Nat} {v u : Value} {l L : List Sn} {ct n : Int} (hB : IsB w base pa v l ct) (h : IsD w p u L n) (k : Kz pa v.ownBlock w w') : IsD w' p u L n := by
  have ne : ∀ (j : Nat) (B : Array Value) (T : TypeId), w.heap[j]? = some (.cells B T (0, 0)) → T ≠ 61 → T ≠ 42 → j ≠ pa ∧ some j ≠ v.ownBlock := fun j B T hj h1 h2 => by
    refine ⟨?_, fun e => ?_⟩
    · rintro rfl
      rw [hB.head] at hj
      simp at hj
      exact h1 hj.2.symm
    · rcases hB.own.2 with ⟨q1, _⟩ | ⟨g, cap, cur, hv, _, hh, _⟩
      · rw [q1] at e; cases e
      · rw [hv] at e
        simp only [Value.ownBlock] at e
        cases e
        rw [hh] at hj
        simp at hj
        exact h2 hj.2.symm
  exact h.same (k.block p (lt_of_heap h.head) (ne p _ _ h.head (by decide) (by decide)).1 (ne p _ _ h.head (by decide) (by decide)).2) (fun j cur _ hj => k.block j (lt_of_heap hj) (ne j _ _ hj (by decide) (by decide)).1 (ne j _ _ hj (by decide) (by decide)).2)
/-- The program's is left alone by what touches the document's. -/
theorem isB_kp {w w' : World} {pb pa : Nat} {base : Nat} {v u : Value} {l L : List Sn} {ct n : Int} (hD : IsD w pb u L n) (h : IsB w base pa v l ct) (k : Kp [pb] w w') : IsB w' base pa v l ct := by
  have ne : ∀ (j : Nat) (B : Array Value) (T : TypeId), w.heap[j]? = some (.cells B T (0, 0)) → T ≠ 36 → j ∉ [pb] := fun j B T hj h1 => by
    simp only [List.mem_singleton]
    rintro rfl
    rw [hD.head] at hj
    simp at hj
    exact h1 hj.2.symm
  refine ⟨(k.block pa (lt_of_heap h.head) (ne pa _ _ h.head (by decide))).trans h.head, isL_same h.own (fun j hj => ?_), trivial⟩
  rcases h.own.2 with ⟨q1, _⟩ | ⟨g, cap, cur, hv, _, hh, _⟩
  · rw [q1] at hj; cases hj
  · rw [hv] at hj
    simp only [Value.ownBlock] at hj
    cases hj
    exact k.block _ (lt_of_heap hh) (ne _ _ _ hh (by decide))
/-- Both. -/
structure Pl (w : World) (pa : Nat) (v : Value) (pb : Nat) (u : Value) (l L : List Sn) (n : Nat) : Prop where
  b : IsB w 0 pa v l (n : Int)
  d : IsD w pb u L (n : Int)
  t : Two l L n
  hh : Heap l l.length
theorem Pl.next {w w' : World} {pa pb : Nat} {v u : Value} {l L : List Sn} {n : Nat} (h : Pl w pa v pb u l L n) (k : Below w.heap.size w w') : Pl w' pa v pb u l L n := ⟨h.b.next k, h.d.next k, h.t, h.hh⟩
/-- What a call of both may touch. -/
structure Kv (pa : Nat) (v v' : Value) (pb : Nat) (w w' : World) : Prop where
  os : w'.os = w.os
  tape : w'.tape = w.tape
  output : w'.output = w.output
  size : w.heap.size ≤ w'.heap.size
  block : ∀ k, k < w.heap.size → k ≠ pa → some k ≠ v.ownBlock → k ≠ pb → w'.heap[k]? = w.heap[k]?
  at_ : ∀ k, v'.ownBlock = some k → v.ownBlock = some k ∨ w.heap.size ≤ k
theorem Kv.of {pa pb : Nat} {v : Value} {w w' : World} (h : Below w.heap.size w w') : Kv pa v v pb w w' := ⟨h.os, h.tape, h.output, h.size, fun k hk _ _ _ => h.block k hk, fun _ hk => .inl hk⟩
theorem Kv.trans {pa pb : Nat} {v v1 v2 : Value} {a b c : World} (h : Kv pa v v1 pb a b) (k : Kv pa v1 v2 pb b c) : Kv pa v v2 pb a c :=
  ⟨k.os.trans h.os, k.tape.trans h.tape, k.output.trans h.output, Nat.le_trans h.size k.size, fun i hi h1 h2 h3 => (k.block i (Nat.lt_of_lt_of_le hi h.size) h1 (fun e => by
    rcases h.at_ i e.symm with q | q
    · exact h2 q.symm
    · omega) h3).trans (h.block i hi h1 h2 h3), fun i hi => by
    rcases k.at_ i hi with q | q
    · exact h.at_ i q
    · exact .inr (Nat.le_trans h.size q)⟩
theorem Kv.kz {pa pb : Nat} {v v' : Value} {w w' : World} (h : Kz pa v.ownBlock w w') (hat : ∀ k, v'.ownBlock = some k → v.ownBlock = some k ∨ w.heap.size ≤ k) : Kv pa v v' pb w w' := ⟨h.os, h.tape, h.output, h.size, fun k hk h1 h2 _ => h.block k hk h1 h2, hat⟩
theorem Kv.kp {pa pb : Nat} {v : Value} {w w' : World} (h : Kp [pb] w w') : Kv pa v v pb w w' := ⟨h.os, h.tape, h.output, h.size, fun k hk _ _ h3 => h.block k hk (by simpa using h3), fun _ hk => .inl hk⟩
theorem kz_of_kp {p g n cap : Nat} {w w' : World} (h : Kp [p, g] w w') : Kz p (Value.ownBlock (.slice (some ⟨g, 0, none⟩) n cap)) w w' := ⟨h.os, h.tape, h.output, h.size, fun k hk h1 h2 => h.block k hk (by
  simp only [List.mem_cons, List.not_mem_nil, or_false]
  rintro (e | e)
  · exact h1 e
  · exact h2 (by rw [e]; rfl))⟩
/-- Next of the program's. -/
theorem nextP {w : World} {pa pb : Nat} {v u : Value} {l L : List Sn} {n : Nat} (h : Pl w pa v pb u l L n) (hn : l.length ≤ 10000) :
    Calls Try.prog 14 #[.pointer (some ⟨pa, 0, none⟩)] w fun e w' => (L = [] ∧ e = .returned (.tuple #[.agg #[.int .i64 0, .int .u16 0, .int .i64 0, .int .u8 0, .int .u8 0, .int .u8 0, .int .u8 0, .int .u8 0, .int .u8 0, .int .u8 0, .int .u8 0, .bool false, .int .i64 0], .bool false]) ∧ Pl w' pa v pb u l L n ∧ Kv pa v v pb w w') ∨ (∃ x t v' m, L = x :: t ∧ e = .returned (.tuple #[.agg x.A, .bool true]) ∧ IsB w' 0 pa v' m (n : Int) ∧ IsD w' pb u (x :: t) (n : Int) ∧ Two m t n ∧ Heap m m.length ∧ Kv pa v v' pb w w') := by
  by_cases hl : l = []
  · subst hl
    have hL : L = [] := List.eq_nil_of_length_eq_zero h.t.len
    obtain ⟨a, c, rfl, _⟩ := val_nil h.b.own
    exact (next_none h.b).mono (fun e w' hq => .inl ⟨hL, hq.1, h.next hq.2, Kv.of hq.2⟩)
  · obtain ⟨N, hN⟩ : ∃ N, l.length = N + 1 := ⟨l.length - 1, by have := List.length_pos_iff.2 hl; omega⟩
    have h0 := h
    obtain ⟨g, cap, rfl⟩ := h.b.own.some hl
    rw [hN] at h
    have hh := h.hh
    rw [hN] at hh
    refine (next_any h.b hN (by omega) hh).mono (fun e w' hq => .inr ?_)
    obtain ⟨q1, ⟨m, q2, q3, q4, q5⟩, q6⟩ := hq
    obtain ⟨t, ht, hT⟩ := h.t.next h.hh hl q3
    have kz := kz_of_kp (n := N + 1) (cap := cap) q6
    have hd := isD_kz h.b h.d kz
    rw [ht] at hd
    rw [hN]
    exact ⟨at_ l 0, t, _, m, ht, q1, q5, hd, hT, by rw [q2]; exact q4, Kv.kz kz (fun k hk => .inl hk)⟩
/-- Gone of both, one behind the other. -/
theorem goneP {w : World} {pa pb : Nat} {v u : Value} {l L : List Sn} {n : Nat} (h : Pl w pa v pb u l L n) (hn : l.length ≤ 10000) (nd : Int) :
    Calls Try.prog 16 #[.pointer (some ⟨pa, 0, none⟩), .int .i64 nd] w fun e w' => e = .returned (.int .i64 ((L.length : Int) - ((L.filter (keepB nd)).length : Int))) ∧ ∃ v' l', IsB w' 0 pa v' l' (n : Int) ∧ IsD w' pb u L (n : Int) ∧ Two l' (L.filter (keepB nd)) n ∧ Heap l' l'.length ∧ Kv pa v v' pb w w' := by
  refine (gone_any h.b (by omega) nd).mono (fun e w' hq => ?_)
  obtain ⟨q1, ⟨v', l', q2, q3, q4, q5⟩, q6⟩ := hq
  have e1 : (L.filter (keepB nd)).length = (l.filter (keepB nd)).length := (h.t.perm.filter _).length_eq
  rw [e1, h.t.len]
  exact ⟨q1, v', l', q5, isD_kz h.b h.d q6, h.t.gone nd q2, q3, Kv.kz q6 (fun k hk => .inl (by rw [← q4]; exact hk))⟩
/-- Send of the program's. -/
theorem sendP {w : World} {pa pb : Nat} {v u : Value} {l L : List Sn} {n : Nat} (h : Pl w pa v pb u l L n) (hn : n ≤ 10000) (y : Sn) (hy : y.nm = n) (ho : Oct [y.d0, y.d1, y.d2, y.d3, y.d4, y.d5, y.d6, y.d7]) :
    Calls Try.prog 15 #[.pointer (some ⟨pa, 0, none⟩), .int .i64 y.nd, .agg #[.int .u16 y.i, .int .i64 y.n, .int .u8 y.d0, .int .u8 y.d1, .int .u8 y.d2, .int .u8 y.d3, .int .u8 y.d4, .int .u8 y.d5, .int .u8 y.d6, .int .u8 y.d7, .bool y.r]] w fun e w' => e = .returned (.int .i64 (sndE y.nd y.ok L.length)) ∧ ((sndE y.nd y.ok L.length ≠ 0 ∧ Pl w' pa v pb u l L n ∧ Kv pa v v pb w w') ∨ (sndE y.nd y.ok L.length = 0 ∧ ∃ v' l', IsB w' 0 pa v' l' (y.nm + 1) ∧ IsD w' pb u L y.nm ∧ Two l' (insN y L) (n + 1) ∧ Heap l' l'.length ∧ Kv pa v v' pb w w')) := by
  rw [h.t.len]
  by_cases he : sndE y.nd y.ok l.length = 0
  · refine (send_okW (by rw [hy]; exact h.b) (Nat.zero_le _) ho he h.hh (by omega) (by omega)).mono (fun e w' hq => ?_)
    obtain ⟨q1, ⟨v', l', ⟨q2, q3, q4⟩, q5⟩, q6⟩ := hq
    exact ⟨by rw [he]; exact q1, .inr ⟨he, v', l', q5, by rw [hy]; exact isD_kz h.b h.d q6, h.t.send hy q2, q3, Kv.kz q6 q4⟩⟩
  · exact (send_bad h.b ho he).mono (fun e w' hq => ⟨hq.1, .inl ⟨he, h.next hq.2, Kv.of hq.2⟩⟩)
/-- Send of the document's. -/
theorem sendD {w : World} {p : Nat} {u : Value} {L : List Sn} (y : Sn) (h : IsD w p u L y.nm) (hc0 : 0 ≤ y.nm) (hc : y.nm < 1000000) :
    Calls Try.prog 23 #[.pointer (some ⟨p, 0, none⟩), .int .i64 y.nd, .agg #[.int .u16 y.i, .int .i64 y.n, .int .u8 y.d0, .int .u8 y.d1, .int .u8 y.d2, .int .u8 y.d3, .int .u8 y.d4, .int .u8 y.d5, .int .u8 y.d6, .int .u8 y.d7, .bool y.r]] w fun e w' => e = .returned (.int .i64 (sndE y.nd y.ok L.length)) ∧ ((sndE y.nd y.ok L.length ≠ 0 ∧ IsD w' p u L y.nm) ∨ (sndE y.nd y.ok L.length = 0 ∧ ∃ u', IsD w' p u' (insN y L) (y.nm + 1))) ∧ Kp [p] w w' := by
  by_cases he : sndE y.nd y.ok L.length = 0
  · by_cases hu : u = .slice none 0 0
    · subst hu
      have hL : L = [] := by
        rcases h.r.at_ with ⟨_, q⟩ | ⟨_, _, _, _, q, _⟩
        · exact q
        · cases q
      subst hL
      refine (rsend_nil y h he hc0 hc).mono (fun e w' hq => ?_)
      rw [he]
      exact ⟨hq.1, .inr ⟨rfl, hq.2.1⟩, hq.2.2⟩
    · refine (rsend_some y h hu he hc0 hc).mono (fun e w' hq => ?_)
      rw [he]
      exact ⟨hq.1, .inr ⟨rfl, hq.2.1⟩, hq.2.2⟩
  · exact (rsend_bad h y he).mono (fun e w' hq => ⟨hq.1, .inl ⟨he, h.next hq.2⟩, Kp.of hq.2⟩)
#print axioms nextP
#print axioms goneP
#print axioms sendP
#print axioms sendD
end Go.Proofs.Ytndlpjfofjikeaa
