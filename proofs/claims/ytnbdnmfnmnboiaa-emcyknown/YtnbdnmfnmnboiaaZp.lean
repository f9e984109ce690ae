/-
  The document's Clear.
-/
import Derived.Test.YtnbdnmfnmnboiaaZo
namespace Go.Proofs.Ytnbdnmfnmnboiaa
open Go.RowKit

theorem IsD.drop {w w' : World} {q : Nat} {sv fv wv : Value} {S : ES} {t : Int} (h : IsD w q sv fv wv S t) (c : Int) (i : Nat) (ha : atS S.st c = some i) (hk : Kp [] w w') {v : Value} (hO : Own w' 77 2 v (S.st.length - 1) (fls (S.st.eraseIdx i))) :
    IsD (w'.setCell ⟨q, 2, none⟩ v) q v fv wv (S.drop c) t := by
  obtain ⟨hi, he⟩ := atS_lt ha
  have hq : w'.heap[q]? = some (.cells #[.int .u8 S.A, .int .i64 S.I, sv, fv, wv, .bool S.told, .int .i64 t] 69 (0, 0)) := hk.at (by simp) h.head
  have hne := hO.ne hq (by decide)
  have kk : Kp [q] w (w'.setCell ⟨q, 2, none⟩ v) := (hk.more (by simp)).set _ _ (.inl (by simp))
  refine ⟨?_, ?_, ?_, ?_, cut_ok h.ok c, h.dt, h.a0, h.a1⟩
  · exact heap_setCell_same _ _ 2 _ _ _ hq
  · show Own _ 77 2 _ (cutS S.st c).length (fls (cutS S.st c))
    rw [he, List.length_eraseIdx, if_pos hi]
    exact hO.same (fun g hg => Below.heap_setCell _ _ _ _ (by rintro rfl; exact hne hg))
  · exact h.fs.kp kk (fun b hb => by have h1 := h.fs.ne h.head (by decide); rw [hb] at h1; simpa using h1)
  · exact h.ws.kp kk (fun b hb => by have h1 := h.ws.ne h.head (by decide); rw [hb] at h1; simpa using h1)
theorem has_at {S : ES} {c : Int} (h : S.has c = true) : ∃ i, atS S.st c = some i := by
  unfold ES.has at h
  rw [atS_has] at h
  cases ha : atS S.st c with
  | none => rw [ha] at h; cases h
  | some i => exact ⟨i, rfl⟩
theorem has_not {S : ES} {c : Int} (h : S.has c = false) : atS S.st c = none := by
  unfold ES.has at h
  rw [atS_has] at h
  cases ha : atS S.st c with
  | none => rfl
  | some i => rw [ha] at h; cases h
set_option linter.unusedSimpArgs false in
set_option maxHeartbeats 4000000 in
set_option maxRecDepth 100000 in
theorem rclear_none {w : World} {q : Nat} {sv fv wv : Value} {S : ES} {t : Int} (h : IsD w q sv fv wv S t) (c : Int) (ht : S.has c = false) : Calls Try.prog 27 #[.pointer (some ⟨q, 0, none⟩), .int .u16 c] w fun e w' => e = .returned (.int .i64 5) ∧ w' = w := by
  have AT := at_any h c
  rw [show atZ S.st c = -1 from by unfold atZ; rw [has_not ht]] at AT
  clear h ht
  go_enter Try.func27, Try.ntmps27
  go_wp2_with fail
  refine AT.mono ?_
  rintro e w1 ⟨rfl, rfl⟩
  go_wp2_with fail
  go_ret
  exact ⟨rfl, rfl⟩
set_option linter.unusedSimpArgs false in
set_option maxHeartbeats 4000000 in
set_option maxRecDepth 100000 in
theorem rclear_full {w : World} {q : Nat} {sv fv wv : Value} {S : ES} {t : Int} (h : IsD w q sv fv wv S t) (c : Int) (ht : S.has c = true) (hw : 16 ≤ S.ws.length) : Calls Try.prog 27 #[.pointer (some ⟨q, 0, none⟩), .int .u16 c] w fun e w' => e = .returned (.int .i64 3) ∧ w' = w := by
  obtain ⟨i, hi⟩ := has_at ht
  have AT := at_any h c
  rw [show atZ S.st c = (i : Int) from by unfold atZ; rw [hi]] at AT
  have k4 : w.cell? ⟨q, 4, none⟩ = some wv := h.cell 4 wv rfl
  obtain ⟨a2, p2, rfl⟩ := h.ws.form
  have i0 : ¬ (i : Int) < 0 := by omega
  have hw' : (16 : Int) ≤ (S.ws.length : Int) := by omega
  clear h ht hi hw
  go_enter Try.func27, Try.ntmps27
  go_wp2_with fail
  refine AT.mono ?_
  rintro e w1 ⟨rfl, rfl⟩
  go_wp2_with fail
  go_ret
  exact ⟨rfl, rfl⟩
set_option linter.unusedSimpArgs false in
set_option maxHeartbeats 4000000 in
set_option maxRecDepth 100000 in
theorem rclear_ok {w : World} {q : Nat} {sv fv wv : Value} {S : ES} {t : Int} (h : IsD w q sv fv wv S t) (c : Int) (ht : S.has c = true) (hw : ¬ 16 ≤ S.ws.length) : Calls Try.prog 27 #[.pointer (some ⟨q, 0, none⟩), .int .u16 c] w fun e w' => e = .returned (.int .i64 0) ∧ DPost w w' q sv fv wv (S.cleared c) := by
  obtain ⟨i, hi⟩ := has_at ht
  have hil := (atS_lt hi).1
  have AT := at_any h c
  rw [show atZ S.st c = (i : Int) from by unfold atZ; rw [hi]] at AT
  obtain ⟨g, o, cap, hsv, hO⟩ := h.st.pos (by omega)
  obtain ⟨o', v1, w1, v2, w2, SL1, AP1, k1, SL2, AP2, O2, g2, k2⟩ := cut_run hO rfl h.ok.s16 i hil 67
  have E2 := h.drop c i hi k2 O2
  obtain ⟨b1, d1, hv2⟩ := O2.form
  have hq1 : w1.heap[q]? = some (.cells #[.int .u8 S.A, .int .i64 S.I, sv, fv, wv, .bool S.told, .int .i64 t] 69 (0, 0)) := k1.at (by simp) h.head
  have q12 : w1.cell? ⟨q, 2, none⟩ = some sv := by rw [cell_of_row w1 q 2 _ _ _ hq1]; rfl
  have l1 := lt_of_heap hq1
  have hq2 : w2.heap[q]? = some (.cells #[.int .u8 S.A, .int .i64 S.I, sv, fv, wv, .bool S.told, .int .i64 t] 69 (0, 0)) := k2.at (by simp) h.head
  have q22 : w2.cell? ⟨q, 2, none⟩ = some sv := by rw [cell_of_row w2 q 2 _ _ _ hq2]; rfl
  have z22 := froz11 w2 q 2 _ _ hq2
  have l2 := lt_of_heap hq2
  have k20 : w.cell? ⟨q, 2, none⟩ = some sv := h.cell 2 sv rfl
  have k4 : w.cell? ⟨q, 4, none⟩ = some wv := h.cell 4 wv rfl
  obtain ⟨a2, p2, hwv⟩ : ∃ a cap, wv = .slice a S.ws.length cap := h.ws.form
  rw [hwv] at k4
  rw [hsv] at k20 q12 q22
  rw [hv2] at AP2 E2
  have lq := h.lt
  have i0 : ¬ (i : Int) < 0 := by omega
  have i1 : (0 : Int) ≤ (i : Int) := by omega
  have wi : IntKind.i64.wrap ((i : Int) + 1) = (i : Int) + 1 := by rw [IntKind.wrap_i64]; have := h.ok.s16; omega
  rw [show ((i + 1 : Nat) : Int) = (i : Int) + 1 from by omega] at SL2
  have hw' : ¬ (16 : Int) ≤ (S.ws.length : Int) := by omega
  have WT := rwait_any E2 (by show S.ws.length < 16; omega) 0 0 0 0 0 0 (by decide) (by intro n hn; simp at hn; omega)
  have K2 : Hid (Kp [] w w2) := k2
  have G2 : Hid (∀ b, v2.ownBlock = some b → w.heap.size ≤ b) := g2
  have V2 : Hid (v2 = .slice b1 (S.st.length - 1) d1) := hv2
  clear h ht hi hw hO k1 O2 g2 k2 E2 hq1 hq2 hsv hv2 hwv hil
  go_enter Try.func27, Try.ntmps27
  go_wp2_with fail
  refine AT.mono ?_
  rintro e w8 ⟨rfl, rfl⟩
  clear AT
  go_wp2_with (first | (at_builtin; first | refine wpList_app_by rfl _ _ _ rfl (.slice none 0 0) (.slice (some ⟨g, o, none⟩) i cap) rfl rfl _ AP1 ?_ | refine wpList_app_by rfl _ _ _ rfl v1 (.slice (some ⟨g, o', none⟩) (S.st.length - (i + 1)) (cap - (i + 1))) rfl rfl _ AP2 ?_) | fail)
  refine WT.mono ?_
  rintro e w5 ⟨rfl, wv', e5, g5, k5⟩
  have KF : Kp (fpD q sv fv wv) w8 w5 := ((K2.out.more (by simp)).set ⟨q, 2, none⟩ _ (.inl (by simp))).trans (k5.more (by intro k hk; simp at hk ⊢; rcases hk with hk | hk <;> simp [hk]))
  have FIN : Hid (DPost w8 w5 q sv fv wv (S.cleared c)) := ⟨_, fv, wv', t, e5, (by
    intro b hb
    rw [← V2.out] at hb
    simp only [List.mem_cons, List.mem_append, Option.mem_toList] at hb
    rcases hb with rfl | (hb | hb) | hb
    · left; simp
    · right; exact G2.out b hb
    · left; simp [hb]
    · rcases g5 b hb with hh | hh
      · left; simp [hh]
      · right
        have h2 := K2.out.size
        simp [World.setCell] at hh
        omega), KF⟩
  clear e5 g5 k5 KF WT
  go_wp2_with fail
  go_ret
  exact ⟨rfl, FIN.out⟩
/-- Clear, the document's. -/
theorem rclear_any {w : World} {q : Nat} {sv fv wv : Value} {S : ES} {t : Int} (h : IsD w q sv fv wv S t) (c : Int) : Calls Try.prog 27 #[.pointer (some ⟨q, 0, none⟩), .int .u16 c] w fun e w' => e = .returned (.int .i64 (S.clearC c)) ∧ DPost w w' q sv fv wv (S.clear c) := by
  cases ht : S.has c with
  | false =>
    have e1 : S.clearC c = 5 := by unfold ES.clearC; rw [if_pos ht]
    refine (rclear_none h c ht).mono ?_
    rintro e w' ⟨rfl, rfl⟩
    refine ⟨by rw [e1], ?_⟩
    unfold ES.clear
    rw [e1, if_neg (by decide)]
    exact DPost.same h (Below.refl _ _)
  | true =>
    have h1 : ¬ S.has c = false := by rw [ht]; decide
    by_cases hw : 16 ≤ S.ws.length
    · have e1 : S.clearC c = 3 := by unfold ES.clearC; rw [if_neg h1, if_pos hw]
      refine (rclear_full h c ht hw).mono ?_
      rintro e w' ⟨rfl, rfl⟩
      refine ⟨by rw [e1], ?_⟩
      unfold ES.clear
      rw [e1, if_neg (by decide)]
      exact DPost.same h (Below.refl _ _)
    · have e1 : S.clearC c = 0 := by unfold ES.clearC; rw [if_neg h1, if_neg hw]
      rw [e1]
      unfold ES.clear
      rw [if_pos e1]
      exact rclear_ok h c ht hw
#print axioms rclear_any
end Go.Proofs.Ytnbdnmfnmnboiaa
