/-
  The document's Raise.
-/
import Derived.Test.YtnbdnmfnmnboiaaZl
namespace Go.Proofs.Ytnbdnmfnmnboiaa
open Go.RowKit

theorem infoTL : (Try.prog.info? 77).map (fun i => (i.zero, i.size, i.bytes)) = some (some (.agg #[.int .u16 0, .int .u8 0]), 2, 4) := by kernel_rfl
theorem elemS4 : Try.prog.underlying 51 = some (.slice (Try.prog.elem 51)) := by kernel_rfl
theorem elemS4' : Try.prog.elem 51 = 52 := by kernel_rfl
theorem sizeT4 (w : World) : (sizeOf 52).run Try.prog w = .ok 1 w := by kernel_rfl
theorem IsD.stand {w w' : World} {q : Nat} {sv fv wv : Value} {S : ES} {t : Int} (h : IsD w q sv fv wv S t) (c : Int) (b : Nat) (hb : b < 8) (hl : S.st.length < 16) (hk : Kp sv.ownBlock.toList w w') {g o cap : Nat} (hO : OwnAt w' 77 2 g o (S.st.length + 1) cap (fls S.st ++ [.int .u16 c, .int .u8 (b : Int)])) :
    IsD (w'.setCell ⟨q, 2, none⟩ (.slice (some ⟨g, o, none⟩) (S.st.length + 1) cap)) q (.slice (some ⟨g, o, none⟩) (S.st.length + 1) cap) fv wv (S.stand c b) t := by
  have hq : w'.heap[q]? = some (.cells #[.int .u8 S.A, .int .i64 S.I, sv, fv, wv, .bool S.told, .int .i64 t] 69 (0, 0)) := hk.at (by have := h.st.ne h.head (by decide); simpa using this) h.head
  have hgq : g ≠ q := by
    rintro rfl
    obtain ⟨cur, c1, _⟩ := hO.cur
    have := c1.symm.trans hq
    simp at this
  have kk : Kp (q :: sv.ownBlock.toList) w (w'.setCell ⟨q, 2, none⟩ (.slice (some ⟨g, o, none⟩) (S.st.length + 1) cap)) := (hk.more (by intro k hk; simp at hk ⊢; simp [hk])).set _ _ (.inl (by simp))
  refine ⟨?_, ?_, ?_, ?_, ?_, h.dt, h.a0, h.a1⟩
  · exact heap_setCell_same _ _ 2 _ _ _ hq
  · have e : (S.stand c b).st.length = S.st.length + 1 := by simp [ES.stand]
    show Own _ 77 2 _ (S.stand c b).st.length (fls (S.st ++ [(c, b)]))
    rw [e, fls_app]
    exact Own.at_of (hO.same (Below.heap_setCell _ _ _ _ hgq))
  · exact h.fs.kp kk (fun b hb => by
      have h1 := h.fs.ne h.head (by decide)
      have h2 := h.fs.apart h.st (by decide) b hb
      rw [hb] at h1
      simp at h1 ⊢
      exact ⟨h1, h2⟩)
  · exact h.ws.kp kk (fun b hb => by
      have h1 := h.ws.ne h.head (by decide)
      have h2 := h.ws.apart h.st (by decide) b hb
      rw [hb] at h1
      simp at h1 ⊢
      exact ⟨h1, h2⟩)
  · obtain ⟨a0, a1, i0, i1, s16, bit, h16, l16, w16, wok, d0, d1, dn⟩ := h.ok
    exact ⟨a0, a1, i0, i1, by simp [ES.stand]; omega, fun x hx => by
      rcases List.mem_append.1 hx with hx | hx
      · exact bit x hx
      · rw [List.mem_singleton.1 hx]; exact hb, h16, l16, w16, wok, d0, d1, dn⟩
theorem hAdd_take (hs : List Int) (f : Int) (ln : Nat) (h : hs.length = 16) (hl : ln ≤ 16) : (hAdd hs f).take (min (ln + 1) 16) = (f :: hs.take ln).take 16 := by
  unfold hAdd
  by_cases h16 : ln = 16
  · subst h16
    simp [List.take_take]
  · have e : min (ln + 1) 16 = ln + 1 := by omega
    rw [e, List.take_succ_cons, List.take_take, Nat.min_eq_left (by omega), List.take_of_length_le (l := f :: hs.take ln) (by simp [h]; omega)]
theorem IsD.note {w w' : World} {q : Nat} {sv fv wv : Value} {S : ES} {t : Int} (h : IsD w q sv fv wv S t) (f : Int) (hk : Kp [] w w') {g o cap : Nat} (hO : OwnAt w' 52 1 g o (min (S.ln + 1) 16) cap (((f :: S.hs.take S.ln).take 16).map (Value.int .u32))) :
    IsD (w'.setCell ⟨q, 3, none⟩ (.slice (some ⟨g, o, none⟩) (min (S.ln + 1) 16) cap)) q sv (.slice (some ⟨g, o, none⟩) (min (S.ln + 1) 16) cap) wv (S.note f) t := by
  have hq : w'.heap[q]? = some (.cells #[.int .u8 S.A, .int .i64 S.I, sv, fv, wv, .bool S.told, .int .i64 t] 69 (0, 0)) := hk.at (by simp) h.head
  have hgq : g ≠ q := by
    rintro rfl
    obtain ⟨cur, c1, _⟩ := hO.cur
    have := c1.symm.trans hq
    simp at this
  have kk : Kp [q] w (w'.setCell ⟨q, 3, none⟩ (.slice (some ⟨g, o, none⟩) (min (S.ln + 1) 16) cap)) := (hk.more (by simp)).set _ _ (.inl (by simp))
  refine ⟨?_, ?_, ?_, ?_, ?_, h.dt, h.a0, h.a1⟩
  · exact heap_setCell_same _ _ 3 _ _ _ hq
  · exact h.st.kp kk (fun b hb => by have h1 := h.st.ne h.head (by decide); rw [hb] at h1; simpa using h1)
  · show Own _ 52 1 _ (min (S.ln + 1) 16) (((hAdd S.hs f).take (min (S.ln + 1) 16)).map (Value.int .u32))
    rw [hAdd_take _ _ _ h.ok.h16 h.ok.l16]
    exact Own.at_of (hO.same (Below.heap_setCell _ _ _ _ hgq))
  · exact h.ws.kp kk (fun b hb => by have h1 := h.ws.ne h.head (by decide); rw [hb] at h1; simpa using h1)
  · obtain ⟨a0, a1, i0, i1, s16, bit, h16, l16, w16, wok, d0, d1, dn⟩ := h.ok
    exact ⟨a0, a1, i0, i1, s16, bit, hAdd_len _ _ h16, Nat.min_le_right _ _, w16, wok, d0, d1, dn⟩
/-- A field put ahead of those that are there. -/
theorem ahead_run {w : World} {fv : Value} {n : Nat} {l : List Int} (h : Own w 52 1 fv n (l.map (Value.int .u32))) (hn : n ≤ 16) (f : Int) (ty : TypeId) :
    ∃ g o cap w', (Builtin.append_ #[51, 51] ty #[.slice (some ⟨w.heap.size, 0, none⟩) 1 1, fv]).run Try.prog (w.alloc (.cells #[.int .u32 f] 52)) = .ok (.slice (some ⟨g, o, none⟩) (1 + n) cap) w' ∧ OwnAt w' 52 1 g o (1 + n) cap ((f :: l).map (Value.int .u32)) ∧ w.heap.size ≤ g ∧ Kp [] w w' := by
  obtain ⟨i0, hi, hz0, hz1, hz2⟩ := info_parts infoU
  have B1 : Below w.heap.size w (w.alloc (.cells #[.int .u32 f] 52)) := (by repeat (first | exact Below.refl _ _ | apply Below.drew | apply Below.al))
  have O1 : OwnAt (w.alloc (.cells #[.int .u32 f] 52)) 52 1 w.heap.size 0 1 1 [.int .u32 f] := OwnAt.made [.int .u32 f] 1 rfl (by simp [maxLen]) (heap_new _ _)
  have h1 := h.next B1
  rcases h1 with ⟨rfl, rfl, hx⟩ | ⟨g0, o0, cap0, rfl, hA⟩
  · have e : l = [] := by simpa using hx
    subst e
    exact ⟨w.heap.size, 0, 1, _, Own.append_none (ty := ty) Try.underlying51 hi (Own.at_of O1) _ _, O1, Nat.le_refl _, Kp.of B1⟩
  · rcases Nat.eq_zero_or_pos n with h0 | h0
    · subst h0
      have e : l = [] := by have := hA.len; simpa using this
      subst e
      exact ⟨w.heap.size, 0, 1, _, Own.append_none (ty := ty) Try.underlying51 hi (Own.at_of O1) _ _, O1, Nat.le_refl _, Kp.of B1⟩
    · obtain ⟨g, o, cap, w', r, hO, hg, hk⟩ := Own.append (ty := ty) Try.underlying51 hi hz0 hz1 hz2 rfl (by decide) (Own.at_of O1) ⟨g0, o0, none⟩ n cap0 (l.map (Value.int .u32)) hA.len hA.cellA (fun u hu => by obtain ⟨_, _, rfl⟩ := List.mem_map.1 hu; rfl) h0 (by omega) (by decide)
      refine ⟨g, o, cap, w', r, hO, ?_, (Kp.of B1).fresh hk (by intro k hk; simp [Value.ownBlock] at hk; exact .inr (by omega))⟩
      rcases hg with hg | hg
      · simp [Value.ownBlock] at hg; omega
      · rw [hg]; simp
#print axioms ahead_run
#print axioms IsD.note
end Go.Proofs.Ytnbdnmfnmnboiaa
