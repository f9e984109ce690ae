/-
  Rows of steps that came in.
  Two pairs of buses: the one that is played on, and the one that was left behind.
-/
import Derived.Test.YtndlpjfofjikeaaCx4
import Derived.Test.YtndlpjfofjikeaaCg4
namespace Go.Proofs.Ytndlpjfofjikeaa
open Go.ChangeShapes Go.WideShapes Go.ChangeAt Go.RowKit

/-- A step. -/
structure St where
  kd : Int
  y : Sn
  tm : Int
abbrev St.L (s : St) : List Value := [.int .i64 s.kd, .int .i64 s.y.nd, .int .u16 s.y.i, .int .i64 s.y.n, .int .u8 s.y.d0, .int .u8 s.y.d1, .int .u8 s.y.d2, .int .u8 s.y.d3, .int .u8 s.y.d4, .int .u8 s.y.d5, .int .u8 s.y.d6, .int .u8 s.y.d7, .bool s.y.r, .int .i64 s.tm]
/-- A row of steps that came in. -/
structure IsSt (w : World) (a : Option Addr) (len : Nat) (ss : List St) : Prop where
  size : ss.length = len
  oct : ∀ s ∈ ss, Oct [s.y.d0, s.y.d1, s.y.d2, s.y.d3, s.y.d4, s.y.d5, s.y.d6, s.y.d7]
  at_ : 0 < len → ∃ b off, a = some ⟨b, off, none⟩ ∧ ∀ i s, ss[i]? = some s → ∀ j v, s.L[j]? = some v → w.cell? ⟨b, off + i * 14 + j, none⟩ = some v
theorem sizeP : (Try.prog.info? 29).map (·.size) = some 14 := by kernel_rfl
theorem aggP : ∀ w, (isAgg 29).run Try.prog w = .ok true w := fun w => by simp [isAgg, run_underlying Try.underlying29]
theorem IsSt.at1 {w w' : World} {a : Option Addr} {len : Nat} {ss : List St} (h : IsSt w a len ss) (k : Below w.heap.size w w') (i : Nat) (hi : i < len) : ∃ b off s, a = some ⟨b, off, none⟩ ∧ ss[i]? = some s ∧ Oct [s.y.d0, s.y.d1, s.y.d2, s.y.d3, s.y.d4, s.y.d5, s.y.d6, s.y.d7] ∧ (∀ j v, s.L[j]? = some v → w'.cell? ⟨b, off + i * 14 + j, none⟩ = some v) ∧ (loadVar 29 ⟨b, off + i * 14, none⟩).run Try.prog w' = .ok (.agg s.L.toArray) w' := by
  obtain ⟨b, off, e, hc⟩ := h.at_ (by omega)
  have hx : ss[i]? = some (ss[i]'(by rw [h.size]; exact hi)) := List.getElem?_eq_getElem (by rw [h.size]; exact hi)
  have hc' : ∀ j v, (ss[i]'(by rw [h.size]; exact hi)).L[j]? = some v → w'.cell? ⟨b, off + i * 14 + j, none⟩ = some v := fun j v hv => by
    have := hc i _ hx j v hv
    rw [k.cell (p := ⟨b, off + i * 14 + j, none⟩) (lt_of_cell this)]
    exact this
  refine ⟨b, off, _, e, hx, h.oct _ (List.getElem_mem _), hc', ?_⟩
  cases hq : Try.prog.info? 29 with
  | none => have := sizeP; simp [hq] at this
  | some ie =>
    have hs : ie.size = 14 := by have := sizeP; simpa [hq] using this
    exact Go.Lib.rl_loadVar_cells (P := Try.prog) 29 ie hq aggP b (off + i * 14) _ (by rw [hs]; rfl) w' hc'
theorem cellsP : Try.prog.cellsOf 29 = 14 := by kernel_rfl

set_option maxRecDepth 100000 in
/-- One step's cells. -/
theorem open_sp {H : Type} {enc : TypeId × Value → H} {w : World} {base : Nat} {spare : Nat → Bool} {held : Bool} {fuel : Nat} {cs : List Value} {y : DataW H × List MemPlace}
    (h : DataW.trod enc Try.prog w base spare held fuel 29 cs = some y) :
    ∃ s : St, Oct [s.y.d0, s.y.d1, s.y.d2, s.y.d3, s.y.d4, s.y.d5, s.y.d6, s.y.d7] ∧ cs = s.L := by
  obtain ⟨xs, m, _, _, hl, hlen, hf⟩ := DataW.trod_struct Try.underlying29 h
  rw [cellsP] at hl
  match cs, hl with
  | [c0, c1, c2, c3, c4, c5, c6, c7, c8, c9, c10, c11, c12, c13], _ =>
    have f0 : DataW.trod enc Try.prog w base spare held m 3 (([c0, c1, c2, c3, c4, c5, c6, c7, c8, c9, c10, c11, c12, c13].drop 0).take (Try.prog.cellsOf 3)) = xs[0]? := hf 0 _ rfl
    have f1 : DataW.trod enc Try.prog w base spare held m 3 (([c0, c1, c2, c3, c4, c5, c6, c7, c8, c9, c10, c11, c12, c13].drop 1).take (Try.prog.cellsOf 3)) = xs[1]? := hf 1 _ rfl
    have f2 : DataW.trod enc Try.prog w base spare held m 27 (([c0, c1, c2, c3, c4, c5, c6, c7, c8, c9, c10, c11, c12, c13].drop 2).take (Try.prog.cellsOf 27)) = xs[2]? := hf 2 _ rfl
    have f3 : DataW.trod enc Try.prog w base spare held m 3 (([c0, c1, c2, c3, c4, c5, c6, c7, c8, c9, c10, c11, c12, c13].drop 13).take (Try.prog.cellsOf 3)) = xs[3]? := hf 3 _ rfl
    rw [cellsI] at f0 f1 f3
    rw [cellsF] at f2
    match xs, hlen with
    | [y0, y1, y2, y3], _ =>
      obtain ⟨kd, e0, _, _⟩ := DataW.trod_int Try.underlying3 f0
      obtain ⟨nd, e1, _, _⟩ := DataW.trod_int Try.underlying3 f1
      obtain ⟨tm, e3, _, _⟩ := DataW.trod_int Try.underlying3 f3
      obtain ⟨x, ho, e2⟩ := open_fr f2
      simp at e0 e1 e2 e3
      obtain ⟨g0, g1, g2, g3, g4, g5, g6, g7, g8, g9, g10⟩ := e2
      subst e0 e1 e3 g0 g1 g2 g3 g4 g5 g6 g7 g8 g9 g10
      exact ⟨⟨kd, ⟨nd, x.i, x.n, x.d0, x.d1, x.d2, x.d3, x.d4, x.d5, x.d6, x.d7, x.r, 0⟩, tm⟩, ho, rfl⟩
/-- A row of steps that came in, as the row reads it. -/
theorem open_st {H : Type} {enc : TypeId × Value → H} {w : World} {base : Nat} {spare : Nat → Bool} {held : Bool} {fuel : Nat} {v : Value} {y : DataW H × List MemPlace}
    (h : DataW.trod enc Try.prog w base spare held fuel 22 [v] = some y) :
    ∃ a len cap l, v = .slice a len cap ∧ IsSt w a len l ∧ len ≤ cap ∧ cap ≤ maxLen := by
  rcases DataW.trod_slice Try.underlying22 h with ⟨h0, _⟩ | ⟨a, len, cap, elems, rest, n, _, h0, _, hb, hl, hm, hlen, hel, hsp, hns⟩
  · cases h0
    exact ⟨none, 0, 0, [], rfl, ⟨rfl, (fun x hx => by cases hx), fun hp => absurd hp (by decide)⟩, Nat.le_refl _, by decide⟩
  · cases h0
    rw [cellsP] at hel
    have each : ∀ i : Nat, ∃ s : St, i < len → Oct [s.y.d0, s.y.d1, s.y.d2, s.y.d3, s.y.d4, s.y.d5, s.y.d6, s.y.d7] ∧ ∀ j v, s.L[j]? = some v → w.cell? ((a.add (i * 14)).add j) = some v := fun i => by
      by_cases hi : i < len
      · have := hel i hi
        rw [List.getElem?_eq_getElem (by omega), Option.bind_eq_some_iff] at this
        obtain ⟨cs, hcs, ht⟩ := this
        obtain ⟨x, hx, rfl⟩ := open_sp ht
        refine ⟨x, fun _ => ⟨hx, fun j v hv => ?_⟩⟩
        have hj : j < 14 := (List.getElem?_eq_some_iff.1 hv).1
        rw [(World.cells?_some hcs).2.2 j hj]; exact hv
      · exact ⟨⟨0, default, 0⟩, fun h => absurd h hi⟩
    obtain ⟨f, hf⟩ := Classical.axiomOfChoice each
    refine ⟨some a, len, cap, (List.range len).map f, rfl, ⟨by simp, fun x hx => ?_, fun hp => ?_⟩, hl, hm⟩
    · obtain ⟨i, hi, rfl⟩ := List.mem_map.1 hx
      exact (hf i (List.mem_range.1 hi)).1
    · obtain ⟨b, off, spot⟩ := a
      have h0 := (hf 0 hp).2 0 _ rfl
      have hs : spot = none := by simpa [Addr.add] using World.cell?_spot h0
      subst hs
      refine ⟨b, off, rfl, fun i x hx j v hv => ?_⟩
      obtain ⟨hi, rfl⟩ : i < len ∧ f i = x := by
        rw [List.getElem?_map] at hx
        by_cases hi : i < len
        · rw [List.getElem?_range hi] at hx
          exact ⟨hi, by simpa using hx⟩
        · rw [List.getElem?_eq_none (by simpa using hi)] at hx
          cases hx
      have hc := (hf i hi).2 j v hv
      simp only [Addr.add_lit] at hc
      exact hc
#print axioms open_st
end Go.Proofs.Ytndlpjfofjikeaa
namespace Go.Proofs.Ytndlpjfofjikeaa
open Go.RowKit

/-- A pair is left alone by what touches another. -/
theorem Pl.far {w w' : World} {pa pb qa qb : Nat} {v v1 u x y : Value} {l L m M : List Sn} {n k : Nat} (h : Pl w pa v pb u l L n) (g : Pl w qa x qb y m M k) (hk : Kv pa v v1 pb w w') (h1 : qa ≠ pa) (h2 : qb ≠ pb) (h3 : ∀ j, v.ownBlock = some j → x.ownBlock ≠ some j) : Pl w' qa x qb y m M k := by
  have row : ∀ (z : Value) (q : Nat) (e : List Sn) (c : Int), IsB w 0 q z e c → ∀ j, z.ownBlock = some j → ∃ A, w.heap[j]? = some (.cells A 42 (0, 0)) := fun z q e c hz j hj => by
    rcases hz.own.2 with ⟨q1, _⟩ | ⟨g', cap, cur, hv, _, hh, _⟩
    · rw [q1] at hj; cases hj
    · rw [hv] at hj
      simp only [Value.ownBlock] at hj
      cases hj
      exact ⟨cur, hh⟩
  have ty : ∀ (i j : Nat) (A B : Array Value) (S T : TypeId), w.heap[i]? = some (.cells A S (0, 0)) → w.heap[j]? = some (.cells B T (0, 0)) → S ≠ T → i ≠ j := fun i j A B S T hi hj hST => by
    rintro rfl
    rw [hi] at hj
    simp at hj
    exact hST hj.2
  have own : ∀ (i : Nat) (A : Array Value) (S : TypeId), w.heap[i]? = some (.cells A S (0, 0)) → S ≠ 42 → some i ≠ v.ownBlock := fun i A S hi hS e => by
    obtain ⟨B, hB⟩ := row v pa l _ h.b i e.symm
    exact ty i i A B S 42 hi hB hS rfl
  refine ⟨⟨(hk.block qa (lt_of_heap g.b.head) h1 (own qa _ _ g.b.head (by decide)) (ty qa pb _ _ _ _ g.b.head h.d.head (by decide))).trans g.b.head, isL_same g.b.own (fun j hj => ?_), trivial⟩, ⟨(hk.block qb (lt_of_heap g.d.head) (ty qb pa _ _ _ _ g.d.head h.b.head (by decide)) (own qb _ _ g.d.head (by decide)) h2).trans g.d.head, g.d.r.same (fun j cur _ hj => ?_)⟩, g.t, g.hh⟩
  · obtain ⟨A, hA⟩ := row x qa m _ g.b j hj
    exact hk.block j (lt_of_heap hA) (ty j pa _ _ _ _ hA h.b.head (by decide)) (fun e => h3 j e.symm hj) (ty j pb _ _ _ _ hA h.d.head (by decide))
  · exact hk.block j (lt_of_heap hj) (ty j pa _ _ _ _ hj h.b.head (by decide)) (own j _ _ hj (by decide)) (ty j pb _ _ _ _ hj h.d.head (by decide))
/-- The pair that is played on and the one left behind: the same, or apart. -/
structure Sta (w0 w : World) (pa pb qa qb N : Nat) : Prop where
  ex : ∃ v u l L n x y m M k, Pl w pa v pb u l L n ∧ Pl w qa x qb y m M k ∧ n ≤ N ∧ k ≤ N ∧ w0.heap.size ≤ pa ∧ w0.heap.size ≤ pb ∧ (∀ j, v.ownBlock = some j → w0.heap.size ≤ j) ∧ ((pa = qa ∧ pb = qb ∧ v = x) ∨ (qa ≠ pa ∧ qb ≠ pb ∧ ∀ j, v.ownBlock = some j → x.ownBlock ≠ some j))
  bel : Below w0.heap.size w0 w
theorem Sta.next {w0 w w' : World} {pa pb qa qb N : Nat} (h : Sta w0 w pa pb qa qb N) (b : Below w.heap.size w w') : Sta w0 w' pa pb qa qb N := by
  obtain ⟨v, u, l, L, n, x, y, m, M, k, h1, h2, h3, h4, h5, h6, h7, h8⟩ := h.ex
  exact ⟨⟨v, u, l, L, n, x, y, m, M, k, h1.next b, h2.next b, h3, h4, h5, h6, h7, h8⟩, Below.andThen h.bel b⟩
theorem Sta.more {w0 w : World} {pa pb qa qb N N' : Nat} (h : Sta w0 w pa pb qa qb N) (hN : N ≤ N') : Sta w0 w pa pb qa qb N' := by
  obtain ⟨v, u, l, L, n, x, y, m, M, k, h1, h2, h3, h4, h5⟩ := h.ex
  exact ⟨⟨v, u, l, L, n, x, y, m, M, k, h1, h2, by omega, by omega, h5⟩, h.bel⟩
/-- Behind a call of both. -/
theorem sta_one {w0 w w' : World} {pa pb qa qb N N' n' : Nat} {v v' u u' x y : Value} {l L l' L' m M : List Sn} {n k : Nat} (h1 : Pl w pa v pb u l L n) (h2 : Pl w qa x qb y m M k) (h4 : k ≤ N) (h5 : w0.heap.size ≤ pa) (h6 : w0.heap.size ≤ pb) (h7 : ∀ j, v.ownBlock = some j → w0.heap.size ≤ j) (h8 : (pa = qa ∧ pb = qb ∧ v = x) ∨ (qa ≠ pa ∧ qb ≠ pb ∧ ∀ j, v.ownBlock = some j → x.ownBlock ≠ some j))
    (hb : Below w0.heap.size w0 w) (hP : Pl w' pa v' pb u' l' L' n') (hK : Kv pa v v' pb w w') (hN : N ≤ N') (hn : n' ≤ N') : Sta w0 w' pa pb qa qb N' := by
  have hs := hb.size
  refine ⟨?_, ⟨hK.os.trans hb.os, hK.tape.trans hb.tape, hK.output.trans hb.output, Nat.le_trans hb.size hK.size, fun i hi => (hK.block i (by omega) (by omega) (fun e => by have := h7 i e.symm; omega) (by omega)).trans (hb.block i hi)⟩⟩
  have h7' : ∀ j, v'.ownBlock = some j → w0.heap.size ≤ j := fun j hj => by
    rcases hK.at_ j hj with q | q
    · exact h7 j q
    · omega
  rcases h8 with ⟨e1, e2, _⟩ | ⟨e1, e2, e3⟩
  · subst e1 e2
    exact ⟨v', u', l', L', n', v', u', l', L', n', hP, hP, hn, hn, h5, h6, h7', .inl ⟨rfl, rfl, rfl⟩⟩
  · refine ⟨v', u', l', L', n', x, y, m, M, k, hP, h1.far h2 hK e1 e2 e3, hn, by omega, h5, h6, h7', .inr ⟨e1, e2, fun j hj e => ?_⟩⟩
    rcases hK.at_ j hj with q | q
    · exact e3 j q e
    · have := (h2.b.own.lt j e).2; omega
#print axioms sta_one
end Go.Proofs.Ytndlpjfofjikeaa
