/-
  The document's Raise in one; its Clear.
-/
import Derived.Test.YtnbdnmfnmnboiaaZn
namespace Go.Proofs.Ytnbdnmfnmnboiaa
open Go.RowKit

/-- Raise, the document's. -/
theorem rraise_any {w : World} {q : Nat} {sv fv wv : Value} {S : ES} {t : Int} (h : IsD w q sv fv wv S t) (c : Int) (b : Nat) (i0 i1 i2 i3 i4 : Int) (c0 : 0 ≤ c ∧ c < 65536) (ho : Oct [i0, i1, i2, i3, i4]) :
    Calls Try.prog 30 #[.pointer (some ⟨q, 0, none⟩), .int .u16 c, .int .u8 (b : Int), arr5 i0 i1 i2 i3 i4] w fun e w' => e = .returned (.int .i64 (S.raiseC c b)) ∧ DPost w w' q sv fv wv (S.raise c b i0 i1 i2 i3 i4) := by
  have no : ∀ k : Int, S.raiseC c b = k → k ≠ 0 → Calls Try.prog 30 #[.pointer (some ⟨q, 0, none⟩), .int .u16 c, .int .u8 (b : Int), arr5 i0 i1 i2 i3 i4] w (fun e w' => e = .returned (.int .i64 k) ∧ Below w.heap.size w w') → Calls Try.prog 30 #[.pointer (some ⟨q, 0, none⟩), .int .u16 c, .int .u8 (b : Int), arr5 i0 i1 i2 i3 i4] w fun e w' => e = .returned (.int .i64 (S.raiseC c b)) ∧ DPost w w' q sv fv wv (S.raise c b i0 i1 i2 i3 i4) := by
    intro k hk h0 hc
    refine hc.mono ?_
    rintro e w' ⟨rfl, hb⟩
    rw [hk]
    refine ⟨rfl, ?_⟩
    unfold ES.raise
    rw [hk, if_neg h0]
    exact DPost.same h hb
  by_cases hc : c = 0
  · exact no 2 (by unfold ES.raiseC; rw [if_pos (.inl hc)]) (by decide) (rraise_zero w q c b i0 i1 i2 i3 i4 hc)
  by_cases hb : 7 < b
  · exact no 2 (by unfold ES.raiseC; rw [if_pos (.inr hb)]) (by decide) (rraise_bit w q c b i0 i1 i2 i3 i4 hc hb)
  have e1 : ¬ (c = 0 ∨ 7 < b) := fun q => q.elim hc hb
  cases ht : S.has c with
  | true => exact no 6 (by unfold ES.raiseC; rw [if_neg e1, if_pos ht]) (by decide) (rraise_twice h c b i0 i1 i2 i3 i4 hc hb ht)
  | false =>
    have e2 : ¬ S.has c = true := by rw [ht]; decide
    by_cases hl : 16 ≤ S.st.length
    · exact no 3 (by unfold ES.raiseC; rw [if_neg e1, if_neg e2, if_pos (.inl hl)]) (by decide) (rraise_many h c b i0 i1 i2 i3 i4 hc hb ht hl)
    by_cases hw : 16 ≤ S.ws.length
    · exact no 3 (by unfold ES.raiseC; rw [if_neg e1, if_neg e2, if_pos (.inr hw)]) (by decide) (rraise_full h c b i0 i1 i2 i3 i4 hc hb ht hl hw)
    have e3 : S.raiseC c b = 0 := by unfold ES.raiseC; rw [if_neg e1, if_neg e2, if_neg (fun q => q.elim hl hw)]
    rw [e3]
    unfold ES.raise
    rw [if_pos e3]
    exact rraise_ok h c b i0 i1 i2 i3 i4 hc hb ht hl hw c0 ho

/-- All but the first few. -/
theorem OwnAt.dropk {w : World} {t e : TypeId} {i : TypeInfo} (ht : Try.prog.underlying t = some (.slice (Try.prog.elem t))) (he : Try.prog.elem t = e) (hi : Try.prog.info? e = some i) {size g o n cap : Nat} {xs : List Value} (hs : i.size = size) (h : OwnAt w e size g o n cap xs) (j : Nat) (hj : j ≤ n) :
    ∃ o', (∀ W, (Instr.sliceAt t (.slice (some ⟨g, o, none⟩) n cap) (some (.int .i64 (j : Int))) none none).run Try.prog W = .ok (.slice (some ⟨g, o', none⟩) (n - j) (cap - j)) W) ∧ OwnAt w e size g o' (n - j) (cap - j) (xs.drop (j * size)) := by
  subst he
  subst hs
  obtain ⟨cur, c1, c2, c3⟩ := h.cur
  have hnc := h.nc
  have hcm := h.cm
  obtain ⟨d, rfl⟩ : ∃ d, cap = d + j := ⟨cap - j, by omega⟩
  obtain ⟨m, rfl⟩ : ∃ m, n = m + j := ⟨n - j, by omega⟩
  have hm1 : (m + j) * i.size = m * i.size + j * i.size := Nat.add_mul _ _ _
  have hd1 : (d + j) * i.size = d * i.size + j * i.size := Nat.add_mul _ _ _
  have hrun : ∀ W, (Instr.sliceAt t (.slice (some ⟨g, o, none⟩) (m + j) (d + j)) (some (.int .i64 (j : Int))) none none).run Try.prog W = .ok (.slice (some ⟨g, if d = 0 then o else o + j * i.size, none⟩) m d) W := fun W => by
    rw [run_sliceAt_slice W t _ _ _ _ ht, run_slice_l W t _ _ _ ht .i64 (j : Int) (by omega) (by omega)]
    have hsz : (sizeOf (Try.prog.elem t)).run Try.prog W = .ok i.size W := by simp [sizeOf, typeInfo, hi]
    rw [hsz]
    simp only [Result.andThen, sliced]
    by_cases h0 : d = 0
    · subst h0; simp
    · simp [h0, add_at]
  rw [Nat.add_sub_cancel, Nat.add_sub_cancel]
  refine ⟨_, hrun, ⟨by rw [List.length_drop, h.len, hm1]; omega, ⟨cur, c1, ?_, ?_⟩, by omega, by omega⟩⟩
  · show (if d = 0 then o else o + j * i.size) + d * i.size ≤ cur.size
    split
    · rename_i h0; subst h0; omega
    · omega
  · show (cur.toList.drop (if d = 0 then o else o + j * i.size)).take (m * i.size) = xs.drop (j * i.size)
    rw [← c3, List.drop_take, List.drop_drop]
    split
    · rename_i h0
      obtain rfl : m = 0 := by omega
      simp
    · rw [hm1]; congr 1; omega
theorem elemSL : Try.prog.underlying 67 = some (.slice (Try.prog.elem 67)) := by kernel_rfl
theorem elemSL' : Try.prog.elem 67 = 77 := by kernel_rfl
theorem sizeTL (w : World) : (sizeOf 77).run Try.prog w = .ok 2 w := by kernel_rfl
theorem fls_oc (l : List (Int × Nat)) : ∀ u ∈ fls l, u.oneCell' = true := by
  intro u hu
  unfold fls at hu
  obtain ⟨x, _, hu⟩ := List.mem_flatMap.1 hu
  simp at hu
  rcases hu with rfl | rfl <;> rfl
theorem fls_take (l : List (Int × Nat)) (i : Nat) : (fls l).take (i * 2) = fls (l.take i) := by
  rcases Nat.lt_or_ge i l.length with h | h
  · have e : fls l = fls (l.take i) ++ fls (l.drop i) := by rw [← fls_app, List.take_append_drop]
    have hl : (fls (l.take i)).length = i * 2 := by rw [fls_len, List.length_take]; omega
    rw [e, ← hl]
    exact List.take_left
  · rw [List.take_of_length_le (l := l) h, List.take_of_length_le (by rw [fls_len]; omega)]
theorem fls_drop (l : List (Int × Nat)) (i : Nat) (h : i ≤ l.length) : (fls l).drop (i * 2) = fls (l.drop i) := by
  have e : fls l = fls (l.take i) ++ fls (l.drop i) := by rw [← fls_app, List.take_append_drop]
  have hl : (fls (l.take i)).length = i * 2 := by rw [fls_len, List.length_take]; omega
  rw [e, ← hl]
  exact List.drop_left
/-- Something of a row of faults put behind a row of one's own. -/
theorem own_more {w : World} {v : Value} {n : Nat} {l m : List (Int × Nat)} (h : Own w 77 2 v n (fls l)) {g o k cap : Nat} (hO : OwnAt w 77 2 g o k cap (fls m)) (hb : n + k ≤ 1000) (ty : TypeId) :
    ∃ v' w', (Builtin.append_ #[67, 67] ty #[v, .slice (some ⟨g, o, none⟩) k cap]).run Try.prog w = .ok v' w' ∧ Own w' 77 2 v' (n + k) (fls (l ++ m)) ∧ (∀ b, v'.ownBlock = some b → v.ownBlock = some b ∨ w.heap.size ≤ b) ∧ Kp v.ownBlock.toList w w' := by
  obtain ⟨il, hil, hzl, hyl, hbl⟩ := info_parts infoTL
  rcases Nat.eq_zero_or_pos k with h0 | h0
  · subst h0
    have e : m = [] := by have := hO.len; rw [fls_len] at this; exact List.eq_nil_of_length_eq_zero (by omega)
    subst e
    rw [List.append_nil]
    exact ⟨v, w, Own.append_none (ty := ty) Try.underlying67 hil h _ _, h, fun _ hb => .inl hb, Kp.refl _ _⟩
  · obtain ⟨g', o', cap', w', r, hO', hg, hk⟩ := Own.append (ty := ty) Try.underlying67 hil hzl hyl hbl rfl (by decide) h ⟨g, o, none⟩ k cap (fls m) hO.len hO.cellA (fls_oc m) h0 (by omega) (by decide)
    rw [← fls_app] at hO'
    refine ⟨_, w', r, Own.at_of hO', fun b hb => ?_, hk⟩
    cases hb
    exact hg.imp id (fun e => by show w.heap.size ≤ g'; omega)
/-- A row of faults without one of them, as Clear makes it. -/
theorem cut_run {w : World} {g o n cap : Nat} {l : List (Int × Nat)} (h : OwnAt w 77 2 g o n cap (fls l)) (hn : l.length = n) (hb : n ≤ 16) (i : Nat) (hi : i < n) (ty : TypeId) :
    ∃ o' v1 w1 v2 w2, (∀ W, (Instr.sliceAt 67 (.slice (some ⟨g, o, none⟩) n cap) none (some (.int .i64 (i : Int))) none).run Try.prog W = .ok (.slice (some ⟨g, o, none⟩) i cap) W) ∧
      (Builtin.append_ #[67, 67] ty #[.slice none 0 0, .slice (some ⟨g, o, none⟩) i cap]).run Try.prog w = .ok v1 w1 ∧ Kp [] w w1 ∧
      (∀ W, (Instr.sliceAt 67 (.slice (some ⟨g, o, none⟩) n cap) (some (.int .i64 ((i + 1 : Nat) : Int))) none none).run Try.prog W = .ok (.slice (some ⟨g, o', none⟩) (n - (i + 1)) (cap - (i + 1))) W) ∧
      (Builtin.append_ #[67, 67] ty #[v1, .slice (some ⟨g, o', none⟩) (n - (i + 1)) (cap - (i + 1))]).run Try.prog w1 = .ok v2 w2 ∧
      Own w2 77 2 v2 (n - 1) (fls (l.eraseIdx i)) ∧ (∀ b, v2.ownBlock = some b → w.heap.size ≤ b) ∧ Kp [] w w2 := by
  obtain ⟨il, hil, hzl, hyl, hbl⟩ := info_parts infoTL
  have hnc := h.nc
  have F := h.few i (by omega)
  rw [fls_take] at F
  have FC : OwnAt w 77 2 g o i cap (fls (l.take i)) := F
  obtain ⟨v1, w1, r1, O1, g1, k1⟩ := own_more (ty := ty) (n := 0) (l := []) (own_nil w _ _) FC (by omega)
  rw [Nat.zero_add, List.nil_append] at O1
  obtain ⟨o', SB, D⟩ := h.dropk elemSL elemSL' hil hyl (i + 1) (by omega)
  rw [fls_drop _ _ (by omega)] at D
  have k1' : Kp [] w w1 := k1
  have D1 := D.same (k1'.block g h.lt (by simp))
  obtain ⟨v2, w2, r2, O2, g2, k2⟩ := own_more (ty := ty) O1 D1 (by omega)
  have n1 : ∀ b, v1.ownBlock = some b → w.heap.size ≤ b := fun b hb => by
    rcases g1 b hb with hh | hh
    · cases hh
    · exact hh
  refine ⟨o', v1, w1, v2, w2, fun W => ?_, r1, k1', SB, r2, ?_, fun b hb => ?_, k1'.fresh k2 (fun b hb => .inr (n1 b (by simpa using hb)))⟩
  · rw [run_sliceAt_slice W _ _ _ _ _ elemSL, run_slice_h W _ _ _ _ elemSL .i64 (i : Int) (by omega) (by omega), elemSL', sizeTL]
    simp [Result.andThen, sliced, add_at]
  · have e : l.eraseIdx i = l.take i ++ l.drop (i + 1) := List.eraseIdx_eq_take_drop_succ l i
    rw [e, show n - 1 = i + (n - (i + 1)) from by omega]
    exact O2
  · rcases g2 b hb with hh | hh
    · exact n1 b hh
    · have := k1'.size; omega
#print axioms cut_run
end Go.Proofs.Ytnbdnmfnmnboiaa
