/-
  The walk of JournalTwo: two journals in one flash.
-/
import Derived.Test.YtgpbmccjcjoijaaKtc
import Derived.Test.YtgpbmccjcjoijaaKlb
namespace Go.Proofs.Ytgpbmccjcjoijaa
open Go.RowKit

theorem Open.far {n f2 k2 : Nat} {j : JS} {s s' : FS} (h : Open n f2 k2 j s) {f1 kk : Nat} (hA : Away f1 kk s.cs s'.cs) (hd : f2 + k2 + k2 ≤ f1 ∨ f1 + kk ≤ f2) : Open n f2 k2 j s' := by
  refine ⟨⟨?_⟩, hA.oct h.oct, hA.len.trans h.len, h.fit, h.k1, h.grp⟩
  rw [← h.inv.eq]
  unfold opn
  rw [hA.far f2 k2 (by omega), hA.far (f2 + k2) k2 (by omega)]
theorem Jat.other {w w' : World} {S : List Nat} {q1 q2 p B n f1 kk f2 k2 : Nat} {j : JS} {s s' : FS} (h : Jat w S q2 p B n f2 k2 j s) (hk : Kp [p, B, q1] w w') (hq : q1 ∈ S) (hne : q2 ≠ q1) (hA : Away f1 kk s.cs s'.cs) (hd : f2 + k2 + k2 ≤ f1 ∨ f1 + kk ≤ f2) : Jat w' S q2 p B n f2 k2 j s' :=
  ⟨h.js.kp hk (by simp [h.qp, h.qB, hne]) (fun x hx => by simp at hx; rcases hx with rfl | rfl | rfl; exact h.pS; exact h.BS; exact hq), h.op.far hA hd, h.qp, h.qB, h.pS, h.BS, h.qS, fun x hx => Nat.lt_of_lt_of_le (h.lt x hx) hk.size⟩
/-- A call that was made of one. -/
theorem Jat.done {w w' : World} {S : List Nat} {q p B n cap first count : Nat} {j : JS} {s : FS} (h : Jat w S q p B n first (count / 2) j s) (hc : j.cut = false) (ho : s.of = false) (ha : s.ar = false) (x : Opx) (hx : x.Ok) {e : Ending} (hp : KeepPost w p B n cap q first (count / 2) S (doesJ n first (count / 2) j x s) e w') : ∃ j' s', e = .returned (.int .i64 (doesM count j.all x).1) ∧ j'.all = (doesM count j.all x).2 ∧ j'.cut = false ∧ Jat w' S q p B n first (count / 2) j' s' ∧ IsS w' p B n cap s' ∧ Away first (count / 2 + count / 2) s.cs s'.cs ∧ s'.of = false ∧ s'.ar = false ∧ Kp [p, B, q] w w' ∧ s' = (doesJ n first (count / 2) j x s).2.2 := by
  obtain ⟨rfl, hF, hJ, hK⟩ := hp
  rcases doesJ_res rfl h.op hc ho x hx with ⟨r1, r2, r3, r4, r5, r6, r7⟩ | ⟨_, _, _, _, _, _, h7⟩
  · exact ⟨_, _, by rw [r1], r2, r3, ⟨hJ, r4, h.qp, h.qB, h.pS, h.BS, h.qS, fun x hx => Nat.lt_of_lt_of_le (h.lt x hx) hK.size⟩, hF, r5, r6, r7.trans ha, hK, rfl⟩
  · rw [ha] at h7; cases h7
theorem agr_refl (a : List Gp) : agr a a = true := agr_yes fun i _ => by unfold agr1; simp
theorem GOk.octs {all : List Gp} (h : GOk all) : ∀ g ∈ all, Oct g.bs := fun g hg => (h.grp g hg).2
theorem GOk.lens {all : List Gp} (h : GOk all) : ∀ g ∈ all, g.bs.length ≤ 4096 := fun g hg => (h.grp g hg).1
/-- Two journals, side by side with the document's. -/
structure Two (w0 wr : World) (p B q1 q2 d db f fb : Nat) (j1 j2 : JS) (s : FS) (m : Nat) : Prop where
  bel : Below w0.heap.size w0 wr
  fs : IsS wr p B 6 6 s
  le : s.Le m
  of : s.of = false
  ar : s.ar = false
  a1 : Jat wr [q2, q1, p, B] q1 p B 6 0 1 j1 s
  a2 : Jat wr [q2, q1, p, B] q2 p B 6 3 1 j2 s
  c1 : j1.cut = false
  c2 : j2.cut = false
  m1 : IsM wr d db 2 j1.all
  m2 : IsM wr f fb 3 j2.all
  n1 : d ∉ [p, B, q1, q2] ∧ db ∉ [p, B, q1, q2]
  n2 : f ∉ [p, B, q1, q2] ∧ fb ∉ [p, B, q1, q2]
  new : ∀ x ∈ [p, B, q1, q2], w0.heap.size ≤ x
  ne : q1 ≠ q2
theorem Two.next {w0 wr w' : World} {p B q1 q2 d db f fb : Nat} {j1 j2 : JS} {s : FS} {m : Nat} (h : Two w0 wr p B q1 q2 d db f fb j1 j2 s m) (hb : Below wr.heap.size wr w') : Two w0 w' p B q1 q2 d db f fb j1 j2 s m :=
  ⟨Below.andThen h.bel hb, h.fs.next hb, h.le, h.of, h.ar, h.a1.next hb, h.a2.next hb, h.c1, h.c2, h.m1.next hb, h.m2.next hb, h.n1, h.n2, h.new, h.ne⟩
theorem not_old {w : World} {L : List Nat} {x : Nat} (h : ∀ y ∈ L, y < w.heap.size) (hx : w.heap.size ≤ x) : x ∉ L := fun hm => by have := h x hm; omega
theorem Two.lt {w0 wr : World} {p B q1 q2 d db f fb : Nat} {j1 j2 : JS} {s : FS} {m : Nat} (h : Two w0 wr p B q1 q2 d db f fb j1 j2 s m) : ∀ y ∈ [p, B, q1, q2], y < wr.heap.size := fun y hy => h.a1.lt y (by simp at hy ⊢; omega)
/-- The first one is called. -/
theorem Two.one {w0 wr Y Z : World} {p B q1 q2 d db f fb : Nat} {j1 j2 : JS} {s : FS} {m : Nat} (h : Two w0 wr p B q1 q2 d db f fb j1 j2 s m) (x : Opx) (hx : x.Ok) {e : Ending} {d' db' : Nat} (hY : Kp [] wr Y) (hd : wr.heap.size ≤ d') (hdb : wr.heap.size ≤ db') (hM : IsM Y d' db' 2 (doesM 2 j1.all x).2) (hp : KeepPost Y p B 6 6 q1 0 1 [q2, q1, p, B] (doesJ 6 0 1 j1 x s) e Z) : e = .returned (.int .i64 (doesM 2 j1.all x).1) ∧ ∃ j' s', Two w0 Z p B q1 q2 d' db' f fb j' j2 s' (m + 70000) := by
  have h' := h.next hY.bel
  obtain ⟨j', s', he, ha, hc, hJ, hF, hA, ho, har, hK, es⟩ := Jat.done (count := 2) h'.a1 h.c1 h.of h.ar x hx hp
  have nd := not_old h.lt hd
  have ndb := not_old h.lt hdb
  have sub : ∀ y ∈ [p, B, q1], y ∈ [p, B, q1, q2] := fun y hy => by simp at hy ⊢; omega
  refine ⟨he, j', s', hK.below h'.bel h'.bel.size (fun x hx => h.new x (sub x hx)), hF, by rw [es]; exact doesJ_le h.le h.a1.op.grp hx (by omega), ho, har, hJ, h'.a2.other hK (by simp) (Ne.symm h.ne) hA (by omega), hc, h.c2, ?_, h'.m2.kp hK (fun hh => h.n2.1 (sub _ hh)) (fun hh => h.n2.2 (sub _ hh)), ⟨nd, ndb⟩, h.n2, h.new, h.ne⟩
  rw [ha]
  exact hM.kp hK (fun hh => nd (sub _ hh)) (fun hh => ndb (sub _ hh))
/-- The second one is called. -/
theorem Two.two {w0 wr Y Z : World} {p B q1 q2 d db f fb : Nat} {j1 j2 : JS} {s : FS} {m : Nat} (h : Two w0 wr p B q1 q2 d db f fb j1 j2 s m) (x : Opx) (hx : x.Ok) {e : Ending} {d' db' : Nat} (hY : Kp [] wr Y) (hd : wr.heap.size ≤ d') (hdb : wr.heap.size ≤ db') (hM : IsM Y d' db' 3 (doesM 3 j2.all x).2) (hp : KeepPost Y p B 6 6 q2 3 1 [q2, q1, p, B] (doesJ 6 3 1 j2 x s) e Z) : e = .returned (.int .i64 (doesM 3 j2.all x).1) ∧ ∃ j' s', Two w0 Z p B q1 q2 d db d' db' j1 j' s' (m + 70000) := by
  have h' := h.next hY.bel
  obtain ⟨j', s', he, ha, hc, hJ, hF, hA, ho, har, hK, es⟩ := Jat.done (count := 3) h'.a2 h.c2 h.of h.ar x hx hp
  have nd := not_old h.lt hd
  have ndb := not_old h.lt hdb
  have sub : ∀ y ∈ [p, B, q2], y ∈ [p, B, q1, q2] := fun y hy => by simp at hy ⊢; omega
  refine ⟨he, j', s', hK.below h'.bel h'.bel.size (fun x hx => h.new x (sub x hx)), hF, by rw [es]; exact doesJ_le h.le h.a2.op.grp hx (by omega), ho, har, h'.a1.other hK (by simp) h.ne hA (by omega), hJ, h.c1, hc, h'.m1.kp hK (fun hh => h.n1.1 (sub _ hh)) (fun hh => h.n1.2 (sub _ hh)), ?_, h.n1, ⟨nd, ndb⟩, h.new, h.ne⟩
  rw [ha]
  exact hM.kp hK (fun hh => nd (sub _ hh)) (fun hh => ndb (sub _ hh))
#print axioms Two.one
#print axioms Two.two
end Go.Proofs.Ytgpbmccjcjoijaa
