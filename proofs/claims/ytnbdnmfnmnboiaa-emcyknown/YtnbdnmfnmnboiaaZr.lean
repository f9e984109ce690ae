/-
  The document's Tick in one; the program's Forget and Reset.
-/
import Derived.Test.YtnbdnmfnmnboiaaZq
namespace Go.Proofs.Ytnbdnmfnmnboiaa
open Go.RowKit

theorem rtick_any {w : World} {q : Nat} {sv fv wv : Value} {S : ES} {t : Int} (h : IsD w q sv fv wv S t) (now : Int) : Calls Try.prog 28 #[.pointer (some ⟨q, 0, none⟩), .int .i64 now] w fun e w' => e = .returned (.tuple #[.agg (S.said now), .bool (S.may now)]) ∧ DPost w w' q sv fv wv (S.tick now) := by
  have no : S.may now = false → Calls Try.prog 28 #[.pointer (some ⟨q, 0, none⟩), .int .i64 now] w (fun e w' => e = .returned (.tuple #[zeroF, .bool false]) ∧ Below w.heap.size w w') → Calls Try.prog 28 #[.pointer (some ⟨q, 0, none⟩), .int .i64 now] w fun e w' => e = .returned (.tuple #[.agg (S.said now), .bool (S.may now)]) ∧ DPost w w' q sv fv wv (S.tick now) := by
    intro hm hc
    refine hc.mono ?_
    rintro e w' ⟨rfl, hb⟩
    have h1 : ¬ S.may now = true := by rw [hm]; decide
    unfold ES.said ES.tick
    rw [if_neg h1, if_neg h1, hm]
    exact ⟨rfl, DPost.same h hb⟩
  cases ht : tmB now with
  | false => exact no (by simp [ES.may, ht]) (rtick_time h now ht)
  | true =>
    cases hw : S.ws with
    | nil => exact no (by simp [ES.may, hw]) (rtick_empty h now ht hw)
    | cons x l =>
      have hne : S.ws ≠ [] := by rw [hw]; simp
      have yes : S.due ≤ now → Calls Try.prog 28 #[.pointer (some ⟨q, 0, none⟩), .int .i64 now] w (fun e w' => e = .returned (.tuple #[.agg (x.A S.A), .bool true]) ∧ DPost w w' q sv fv wv (S.popped now)) → Calls Try.prog 28 #[.pointer (some ⟨q, 0, none⟩), .int .i64 now] w fun e w' => e = .returned (.tuple #[.agg (S.said now), .bool (S.may now)]) ∧ DPost w w' q sv fv wv (S.tick now) := by
        intro hd hc
        have hm : S.may now = true := by simp [ES.may, hw, ht]; omega
        unfold ES.said ES.tick
        rw [if_pos hm, if_pos hm, hm, hw]
        exact hc
      cases htd : S.told with
      | false => exact yes (by rw [h.ok.dn htd]; exact (tmB_of ht).1) (rtick_new h now x l hw ht htd)
      | true =>
        have hd := h.dt htd
        have i0 := h.ok.i0
        by_cases hl : now < t
        · exact no (by simp [ES.may]; intros; omega) (rtick_late h now ht hne htd hl)
        · by_cases he : now - t < S.I
          · exact no (by simp [ES.may]; intros; omega) (rtick_early h now ht hne htd hl he)
          · exact yes (by omega) (rtick_due h now x l hw ht htd hl he)

/-- The history is empty. -/
def ES.forget (S : ES) : ES := { S with hs := List.replicate 16 0, ln := 0 }
theorem forget_ok {S : ES} (h : S.Ok) : S.forget.Ok := ⟨h.a0, h.a1, h.i0, h.i1, h.s16, h.bit, by simp [ES.forget], by simp [ES.forget], h.w16, h.wok, h.d0, h.d1, h.dn⟩
def z17 : List Value := [.int .u32 0, .int .u32 0, .int .u32 0, .int .u32 0, .int .u32 0, .int .u32 0, .int .u32 0, .int .u32 0, .int .u32 0, .int .u32 0, .int .u32 0, .int .u32 0, .int .u32 0, .int .u32 0, .int .u32 0, .int .u32 0, .int .i64 0]
theorem esC_forget (S : ES) (m : Nat) (v : Value) (h : S.hs.length = 16) : ((esC S m v).toArray.toList.take 3 ++ z17 ++ (esC S m v).toArray.toList.drop (3 + z17.length)).toArray = (esC S.forget m v).toArray := by
  obtain ⟨A, I, st, hs, ln, ws', told, due⟩ := S
  simp only at h
  match hs, h with
  | [a0, a1, a2, a3, a4, a5, a6, a7, a8, a9, b0, b1, b2, b3, b4, b5], _ => rfl
theorem forget_run {w : World} {p m : Nat} {v : Value} {S : ES} (h : IsE w p m v S) : (storeVar 63 ⟨p, 3, none⟩ (.agg z17.toArray)).run Try.prog w = .ok () (w.setRow p (esC S.forget m v).toArray) := by
  have := store_part 63 17 (by kernel_rfl) w p 3 _ 66 h.head z17 rfl (by rw [List.size_toArray, esC_len S m v h.ok.h16]; decide) (by intro u hu; simp [z17] at hu; rcases hu with rfl | rfl <;> rfl)
  rw [esC_forget S m v h.ok.h16] at this
  exact this
theorem IsE.forget {w : World} {p m : Nat} {v : Value} {S : ES} (h : IsE w p m v S) : IsE (w.setRow p (esC S.forget m v).toArray) p m v S.forget := by
  have kk : Kp [p] w (w.setRow p (esC S.forget m v).toArray) := (Kp.refl _ _).row _ _ (.inl (by simp))
  exact ⟨setRow_heap _ _ _ _ _ _ h.head, h.map.kp kk (by simp; exact fun e => h.pm e.symm), h.row.kp kk (fun g hg => by have := h.pv.1; rw [hg] at this; simpa using this), forget_ok h.ok⟩
set_option linter.unusedSimpArgs false in
set_option maxHeartbeats 4000000 in
set_option maxRecDepth 100000 in
theorem forget_any {w : World} {p m : Nat} {v : Value} {S : ES} (h : IsE w p m v S) : Calls Try.prog 21 #[.pointer (some ⟨p, 0, none⟩)] w fun e w' => e = .returned (.tuple #[]) ∧ EPost w w' p m v S.forget := by
  have FR := forget_run h
  have FIN : Hid (EPost w (w.setRow p (esC S.forget m v).toArray) p m v S.forget) := ⟨v, h.forget, fun _ hg => .inl hg, (Kp.refl _ _).row _ _ (.inl (by simp))⟩
  have lp := h.lt
  clear h
  go_enter Try.func21, Try.ntmps21
  go_wp2_with (refine wpList_store_by (w' := w.setRow p (esC S.forget m v).toArray) rfl 63 _ _ rfl ⟨p, 3, none⟩ (.agg z17.toArray) rfl rfl ?_ ?_
               · exact FR)
  go_end0
  exact ⟨rfl, FIN.out⟩
theorem IsE.reset {w w' : World} {p m : Nat} {v : Value} {S : ES} (h : IsE w p m v S) (hk : Kp [m] w w') (hm : IsM w' m []) : IsE ((w'.setCell ⟨p, 20, none⟩ (.slice none 0 0)).setCell ⟨p, 21, none⟩ (.int .i64 0)) p m (.slice none 0 0) S.reset := by
  have hp : w'.heap[p]? = some (.cells (esC S m v).toArray 66 (0, 0)) := hk.at (by simp [h.pm]) h.head
  have hmp : m ≠ p := fun e => h.pm e.symm
  refine ⟨?_, hm.same ((Below.heap_setCell _ _ _ _ hmp).trans (Below.heap_setCell _ _ _ _ hmp)), own_nil _ _ _, reset_ok h.ok⟩
  unfold ES.reset
  have e : (esC { S with st := [], ws := [], told := false, due := 0 } m (.slice none 0 0)) = (esC { S with ws := [], told := false, due := 0 } m (.slice none 0 0)) := rfl
  rw [e, ← esC_set2 S m v (.slice none 0 0) [] 0 false h.ok.h16]
  exact heap_setCell_same _ _ _ _ _ _ (heap_setCell_same _ _ _ _ _ _ hp)
set_option linter.unusedSimpArgs false in
set_option maxHeartbeats 4000000 in
set_option maxRecDepth 100000 in
theorem reset_any {w : World} {p m : Nat} {v : Value} {S : ES} (h : IsE w p m v S) : Calls Try.prog 22 #[.pointer (some ⟨p, 0, none⟩)] w fun e w' => e = .returned (.tuple #[]) ∧ EPost w w' p m v S.reset := by
  obtain ⟨w1, CR, hm1, hk1, hz1⟩ := clr_run w m _ 0 h.map
  have k2 := h.c2
  have hp1 : w1.heap[p]? = some (.cells (esC S m v).toArray 66 (0, 0)) := hk1.at (by simp [h.pm]) h.head
  have k20 : w1.cell? ⟨p, 20, none⟩ = some v := by rw [cell_of_row w1 p 20 _ _ _ hp1]; simpa using (esC_19 S m v h.ok.h16).2.1
  have k21 : w1.cell? ⟨p, 21, none⟩ = some (.int .i64 S.due) := by rw [cell_of_row w1 p 21 _ _ _ hp1]; simpa using (esC_19 S m v h.ok.h16).2.2
  have z20 := froz11 w1 p 20 _ _ hp1
  have z21 := froz11 w1 p 21 _ _ hp1
  have l1 := lt_of_heap hp1
  have lp := h.lt
  have FIN : Hid (EPost w ((w1.setCell ⟨p, 20, none⟩ (.slice none 0 0)).setCell ⟨p, 21, none⟩ (.int .i64 0)) p m v S.reset) := ⟨_, h.reset hk1 hm1, (fun g hg => by cases hg), (((hk1.more (by simp)).set _ _ (.inl (by simp))).set _ _ (.inl (by simp)))⟩
  clear h hm1 hk1 hz1 hp1
  go_enter Try.func22, Try.ntmps22
  go_wp2_with (at_builtin; refine wpList_clr_by rfl _ _ rfl (.map (some m)) rfl _ CR ?_)
  go_end0
  exact ⟨rfl, FIN.out⟩
#print axioms rtick_any
#print axioms forget_any
#print axioms reset_any
end Go.Proofs.Ytnbdnmfnmnboiaa
