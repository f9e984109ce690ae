/-
  The walk of JournalTwo: two journals in one flash.
  One journal beside the document's: for JournalPlays and JournalCuts.
  Where the power goes: a journal that was cut, side by side with the document's.
-/
import Derived.Test.YtgpbmccjcjoijaaKtc
import Derived.Test.YtgpbmccjcjoijaaKlb
namespace Go.Proofs.Ytgpbmccjcjoijaa
open Go.RowKit

theorem Open.far {n f2 k2 : Nat} {j : JS} {s s' : FS} (h : Open n f2 k2 j s) {f1 kk : Nat} (hA : Away f1 kk s.cs s'.cs) (hd : f2 + k2 + k2 ≤ f1 ∨ f1 + kk ≤ f2) : Open n f2 k2 j s' := by
  refine ⟨⟨?_⟩, hA.oct h.oct, hA.len.trans h.len, h.fit, h.k1, h.grp⟩
  rw [← h.inv.eq]
  unfold opn
  rw [hA.far f2 k2 (by omega), hA.far (f2 + k2) k2 (by omega)]
theorem Jat.other {w w' : World} {S : List Nat} {q1 q2 p B n f1 kk f2 k2 : Nat} {j : JS} {s s' : FS} (h : Jat w S q2 p B n f2 k2 j s) (hk : Kp [p, B, q1] w w') (hq : q1 ∈ S) (hne : q2 ≠ q1) (hA : Away f1 kk s.cs s'.cs) (hd : f2 + k2 + k2 ≤ f1 ∨ f1 + kk ≤ f2) : Jat w' S q2 p B n f2 k2 j s' :=
  ⟨h.js.kp hk (by simp [h.qp, h.qB, hne]) (fun x hx => by simp at hx; rcases hx with rfl | rfl | rfl; exact h.pS; exact h.BS; exact hq), h.op.far hA hd, h.qp, h.qB, h.pS, h.BS, h.qS, fun x hx => Nat.lt_of_lt_of_le (h.lt x hx) hk.size⟩
/-- A call that was made of one. -/
theorem Jat.done {w w' : World} {S : List Nat} {q p B n cap first count : Nat} {j : JS} {s : FS} (h : Jat w S q p B n first (count / 2) j s) (hc : j.cut = false) (ho : s.of = false) (ha : s.ar = false) (x : Opx) (hx : x.Ok) {e : Ending} (hp : KeepPost w p B n cap q first (count / 2) S (doesJ n first (count / 2) j x s) e w') : ∃ j' s', e = .returned (.int .i64 (doesM count j.all x).1) ∧ j'.all = (doesM count j.all x).2 ∧ j'.cut = false ∧ Jat w' S q p B n first (count / 2) j' s' ∧ IsS w' p B n cap s' ∧ Away first (count / 2 + count / 2) s.cs s'.cs ∧ s'.of = false ∧ s'.ar = false ∧ Kp [p, B, q] w w' ∧ s' = (doesJ n first (count / 2) j x s).2.2 := by
  obtain ⟨rfl, hF, hJ, hK⟩ := hp
  rcases doesJ_res rfl h.op hc ho x hx with ⟨r1, r2, r3, r4, r5, r6, r7⟩ | ⟨_, _, _, _, _, _, h7⟩
  · exact ⟨_, _, by rw [r1], r2, r3, ⟨hJ, r4, h.qp, h.qB, h.pS, h.BS, h.qS, fun x hx => Nat.lt_of_lt_of_le (h.lt x hx) hK.size⟩, hF, r5, r6, r7.trans ha, hK, rfl⟩
  · rw [ha] at h7; cases h7
theorem agr_refl (a : List Gp) : agr a a = true := agr_yes fun i _ => by unfold agr1; simp
theorem GOk.octs {all : List Gp} (h : GOk all) : ∀ g ∈ all, Oct g.bs := fun g hg => (h.grp g hg).2
theorem GOk.lens {all : List Gp} (h : GOk all) : ∀ g ∈ all, g.bs.length ≤ 4096 := fun g hg => (h.grp g hg).1
/-- Two journals, side by side with the document's. -/
structure Two (w0 wr : World) (p B q1 q2 d db f fb : Nat) (j1 j2 : JS) (s : FS) (m : Nat) : Prop where
  bel : Below w0.heap.size w0 wr
  fs : IsS wr p B 6 6 s
  le : s.Le m
  of : s.of = false
  ar : s.ar = false
  a1 : Jat wr [q2, q1, p, B] q1 p B 6 0 1 j1 s
  a2 : Jat wr [q2, q1, p, B] q2 p B 6 3 1 j2 s
  c1 : j1.cut = false
  c2 : j2.cut = false
  m1 : IsM wr d db 2 j1.all
  m2 : IsM wr f fb 3 j2.all
  n1 : d ∉ [p, B, q1, q2] ∧ db ∉ [p, B, q1, q2]
  n2 : f ∉ [p, B, q1, q2] ∧ fb ∉ [p, B, q1, q2]
  new : ∀ x ∈ [p, B, q1, q2], w0.heap.size ≤ x
  ne : q1 ≠ q2
theorem Two.next {w0 wr w' : World} {p B q1 q2 d db f fb : Nat} {j1 j2 : JS} {s : FS} {m : Nat} (h : Two w0 wr p B q1 q2 d db f fb j1 j2 s m) (hb : Below wr.heap.size wr w') : Two w0 w' p B q1 q2 d db f fb j1 j2 s m :=
  ⟨Below.andThen h.bel hb, h.fs.next hb, h.le, h.of, h.ar, h.a1.next hb, h.a2.next hb, h.c1, h.c2, h.m1.next hb, h.m2.next hb, h.n1, h.n2, h.new, h.ne⟩
theorem not_old {w : World} {L : List Nat} {x : Nat} (h : ∀ y ∈ L, y < w.heap.size) (hx : w.heap.size ≤ x) : x ∉ L := fun hm => by have := h x hm; omega
theorem Two.lt {w0 wr : World} {p B q1 q2 d db f fb : Nat} {j1 j2 : JS} {s : FS} {m : Nat} (h : Two w0 wr p B q1 q2 d db f fb j1 j2 s m) : ∀ y ∈ [p, B, q1, q2], y < wr.heap.size := fun y hy => h.a1.lt y (by simp at hy ⊢; omega)
/-- The first one is called. -/
theorem Two.one {w0 wr Y Z : World} {p B q1 q2 d db f fb : Nat} {j1 j2 : JS} {s : FS} {m : Nat} (h : Two w0 wr p B q1 q2 d db f fb j1 j2 s m) (x : Opx) (hx : x.Ok) {e : Ending} {d' db' : Nat} (hY : Kp [] wr Y) (hd : wr.heap.size ≤ d') (hdb : wr.heap.size ≤ db') (hM : IsM Y d' db' 2 (doesM 2 j1.all x).2) (hp : KeepPost Y p B 6 6 q1 0 1 [q2, q1, p, B] (doesJ 6 0 1 j1 x s) e Z) : e = .returned (.int .i64 (doesM 2 j1.all x).1) ∧ ∃ j' s', Two w0 Z p B q1 q2 d' db' f fb j' j2 s' (m + 70000) := by
  have h' := h.next hY.bel
  obtain ⟨j', s', he, ha, hc, hJ, hF, hA, ho, har, hK, es⟩ := Jat.done (count := 2) h'.a1 h.c1 h.of h.ar x hx hp
  have nd := not_old h.lt hd
  have ndb := not_old h.lt hdb
  have sub : ∀ y ∈ [p, B, q1], y ∈ [p, B, q1, q2] := fun y hy => by simp at hy ⊢; omega
  refine ⟨he, j', s', hK.below h'.bel h'.bel.size (fun x hx => h.new x (sub x hx)), hF, by rw [es]; exact doesJ_le h.le h.a1.op.grp hx (by omega), ho, har, hJ, h'.a2.other hK (by simp) (Ne.symm h.ne) hA (by omega), hc, h.c2, ?_, h'.m2.kp hK (fun hh => h.n2.1 (sub _ hh)) (fun hh => h.n2.2 (sub _ hh)), ⟨nd, ndb⟩, h.n2, h.new, h.ne⟩
  rw [ha]
  exact hM.kp hK (fun hh => nd (sub _ hh)) (fun hh => ndb (sub _ hh))
/-- The second one is called. -/
theorem Two.two {w0 wr Y Z : World} {p B q1 q2 d db f fb : Nat} {j1 j2 : JS} {s : FS} {m : Nat} (h : Two w0 wr p B q1 q2 d db f fb j1 j2 s m) (x : Opx) (hx : x.Ok) {e : Ending} {d' db' : Nat} (hY : Kp [] wr Y) (hd : wr.heap.size ≤ d') (hdb : wr.heap.size ≤ db') (hM : IsM Y d' db' 3 (doesM 3 j2.all x).2) (hp : KeepPost Y p B 6 6 q2 3 1 [q2, q1, p, B] (doesJ 6 3 1 j2 x s) e Z) : e = .returned (.int .i64 (doesM 3 j2.all x).1) ∧ ∃ j' s', Two w0 Z p B q1 q2 d db d' db' j1 j' s' (m + 70000) := by
  have h' := h.next hY.bel
  obtain ⟨j', s', he, ha, hc, hJ, hF, hA, ho, har, hK, es⟩ := Jat.done (count := 3) h'.a2 h.c2 h.of h.ar x hx hp
  have nd := not_old h.lt hd
  have ndb := not_old h.lt hdb
  have sub : ∀ y ∈ [p, B, q2], y ∈ [p, B, q1, q2] := fun y hy => by simp at hy ⊢; omega
  refine ⟨he, j', s', hK.below h'.bel h'.bel.size (fun x hx => h.new x (sub x hx)), hF, by rw [es]; exact doesJ_le h.le h.a2.op.grp hx (by omega), ho, har, h'.a1.other hK (by simp) h.ne hA (by omega), hJ, h.c1, hc, h'.m1.kp hK (fun hh => h.n1.1 (sub _ hh)) (fun hh => h.n1.2 (sub _ hh)), ?_, h.n1, ⟨nd, ndb⟩, h.new, h.ne⟩
  rw [ha]
  exact hM.kp hK (fun hh => nd (sub _ hh)) (fun hh => ndb (sub _ hh))
#print axioms Two.one
#print axioms Two.two
end Go.Proofs.Ytgpbmccjcjoijaa
namespace Go.Proofs.Ytgpbmccjcjoijaa
open Go.RowKit

theorem mflat_kind {all : List Gp} : ∀ v ∈ mflat all, ∀ z, v ≠ .int .u8 z := by
  intro v hv z
  obtain ⟨g, _, hg⟩ := List.mem_flatMap.1 hv
  simp [mcell] at hg
  rcases hg with rfl | rfl | rfl <;> simp
theorem IsM.not {w : World} {d db count : Nat} {all : List Gp} (h : IsM w d db count all) {off : Nat} {z : Int} (hc : w.cell? ⟨db, off, none⟩ = some (.int .u8 z)) : False := by
  rw [cell_of_row w _ _ _ _ _ h.row, List.getElem?_toArray] at hc
  exact mflat_kind _ (List.mem_of_getElem? hc) z rfl
theorem Row.kpM {w w' : World} {a : Option Addr} {len : Nat} {zs : List Int} {d db count : Nat} {all : List Gp} (h : Row w a len zs) (hM : IsM w d db count all) (k : Kp [db] w w') : Row w' a len zs := h.kp' k (fun hp b off e hm => by
  obtain ⟨b', off', e', hc⟩ := h.at_ hp
  rw [e] at e'
  cases e'
  have h0 := hc 0 hp
  obtain rfl : b = db := by simpa using hm
  exact hM.not h0)
theorem IsJ.kpM {w w' : World} {S : List Nat} {q p first k : Nat} {j : JS} {d db count : Nat} {all : List Gp} (h : IsJ w S q p first k j) (hM : IsM w d db count all) (hk : Kp [db] w w') (hq : q ≠ db) : IsJ w' S q p first k j := by
  obtain ⟨ss, h, hI⟩ := h
  refine ⟨ss, (hk.block q (lt_of_heap h) (by simpa using hq)).trans h, hI.n1, hI.n2, fun i g s h1 h2 => ?_⟩
  obtain ⟨r, l, hn⟩ := hI.row i g s h1 h2
  exact ⟨r.kpM hM hk, l, hn⟩
/-- One journal in a flash, side by side with the document's. -/
structure One (w0 wr : World) (p B q d db count : Nat) (j : JS) (al : List Gp) (s : FS) (m : Nat) : Prop where
  bel : Below w0.heap.size w0 wr
  fs : IsS wr p B (count + 2) (count + 2) s
  le : s.Le m
  a : Jat wr [q, p, B] q p B (count + 2) 1 (count / 2) j s
  ms : IsM wr d db count al
  nd : d ∉ [p, B, q] ∧ db ∉ [p, B, q]
  new : ∀ x ∈ [p, B, q], w0.heap.size ≤ x
  away : Away 1 (count / 2 + count / 2) (begC count) s.cs
  newd : w0.heap.size ≤ db
theorem One.next {w0 wr w' : World} {p B q d db count : Nat} {j : JS} {al : List Gp} {s : FS} {m : Nat} (h : One w0 wr p B q d db count j al s m) (hb : Below wr.heap.size wr w') : One w0 w' p B q d db count j al s m :=
  ⟨Below.andThen h.bel hb, h.fs.next hb, h.le, h.a.next hb, h.ms.next hb, h.nd, h.new, h.away, h.newd⟩
theorem One.more {w0 wr : World} {p B q d db count : Nat} {j : JS} {al : List Gp} {s : FS} {m k : Nat} (h : One w0 wr p B q d db count j al s m) (hm : m ≤ k) : One w0 wr p B q d db count j al s k :=
  ⟨h.bel, h.fs, h.le.more hm, h.a, h.ms, h.nd, h.new, h.away, h.newd⟩
theorem One.lt {w0 wr : World} {p B q d db count : Nat} {j : JS} {al : List Gp} {s : FS} {m : Nat} (h : One w0 wr p B q d db count j al s m) : ∀ y ∈ [p, B, q], y < wr.heap.size := fun y hy => h.a.lt y (by simp at hy ⊢; omega)
/-- The program's calls, by the call that is asked for. -/
theorem restore_both {w : World} {p B n cap : Nat} {s : FS} (hF : IsS w p B n cap s) (m : Nat) (hm : s.Le m) (hm2 : m ≤ 700000000) {q first k : Nat} {j : JS} {S : List Nat} (hJ : Jat w S q p B n first k j s) (hk : 1 ≤ k) (x : Opx) (hx : x.Ok) (h3 : x.kind % 6 = 3) :
    Calls Try.prog 13 #[.pointer (some ⟨q, 0, none⟩), .int .u8 x.grp] w fun e w' => KeepPost w p B n cap q first k S (doesJ n first k j x s) e w' := by
  have g0 := hx.g0
  unfold doesJ
  rw [if_pos h3]
  by_cases hg : 16 ≤ x.grp
  · rw [if_pos hg]
    refine (restore_big q x.grp hg).mono ?_
    rintro e w' ⟨rfl, rfl⟩
    exact ⟨rfl, hF, hJ.js, Kp.refl _ _⟩
  · rw [if_neg hg]
    obtain ⟨G, hG⟩ := Int.eq_ofNat_of_zero_le g0.1
    have := restore_any hF m hm hm2 hJ.js hJ.op.ok hJ.qp hJ.qB hk hJ.op.fit hJ.pS hJ.BS hJ.qS G _ (hJ.op.grp.at (show G < 16 by omega))
    rw [hG]
    exact this
theorem store_both {w : World} {p B n cap : Nat} {s : FS} (hF : IsS w p B n cap s) (m : Nat) (hm : s.Le m) (hm2 : m ≤ 700000000) {q first k : Nat} {j : JS} {S : List Nat} (hJ : Jat w S q p B n first k j s) (hk : 1 ≤ k) (hk2 : k ≤ 1000) (x : Opx) (hx : x.Ok) (h3 : ¬ x.kind % 6 = 3) (a : Option Addr) (cap2 : Nat) (hr : Row w a x.all.length x.all) (hn : 0 < x.all.length → ∀ b off, a = some ⟨b, off, none⟩ → b ∉ S) :
    Calls Try.prog 17 #[.pointer (some ⟨q, 0, none⟩), .int .u8 x.grp, .slice a x.all.length cap2] w fun e w' => KeepPost w p B n cap q first k S (doesJ n first k j x s) e w' := by
  unfold doesJ
  rw [if_neg h3]
  have := x.all_len hx
  exact store_any hF m hm hm2 hJ.js hJ.op.ok hJ.qp hJ.qB hk hk2 hJ.op.fit hJ.pS hJ.BS hJ.qS hJ.lt x.grp hx.g0.1 x.all a _ cap2 hr (by omega) hn
theorem rrestore_both {w : World} {d db count : Nat} {all : List Gp} (hM : IsM w d db count all) (hG : GOk all) (x : Opx) (hx : x.Ok) (h3 : x.kind % 6 = 3) :
    Calls Try.prog 14 #[.pointer (some ⟨d, 0, none⟩), .int .u8 x.grp] w fun e w' => MPost w d db count (doesM count all x) e w' := by
  have g0 := hx.g0
  unfold doesM
  rw [if_pos h3]
  by_cases hg : 16 ≤ x.grp
  · rw [if_pos hg]
    refine (rrestore_big d x.grp hg).mono ?_
    rintro e w' ⟨rfl, rfl⟩
    exact ⟨rfl, hM, Kp.refl _ _⟩
  · rw [if_neg hg]
    obtain ⟨G, hG'⟩ := Int.eq_ofNat_of_zero_le g0.1
    have := rrestore_any hM G _ (hG.at (show G < 16 by omega))
    rw [hG']
    exact this
theorem rstore_both {w : World} {d db count : Nat} {all : List Gp} (hM : IsM w d db count all) (hG : GOk all) (hc : count ≤ 1000) (hc2 : 2 ≤ count) (x : Opx) (hx : x.Ok) (h3 : ¬ x.kind % 6 = 3) (a : Option Addr) (cap2 : Nat) (hr : Row w a x.all.length x.all) :
    Calls Try.prog 18 #[.pointer (some ⟨d, 0, none⟩), .int .u8 x.grp, .slice a x.all.length cap2] w fun e w' => MPost w d db count (doesM count all x) e w' := by
  unfold doesM
  rw [if_neg h3]
  refine rstore_any hM hG.lens hc hc2 x.grp hx.g0.1 x.all a _ cap2 hr (fun hp b off e hm => ?_)
  obtain ⟨b', off', e', hcc⟩ := hr.at_ hp
  rw [e] at e'
  cases e'
  have h0 := hcc 0 hp
  obtain rfl : b = db := by simpa using hm
  exact hM.not h0
/-- Both were called. -/
theorem One.step {w0 X U V : World} {p B q d db count : Nat} {j : JS} {s : FS} {m : Nat} (h : One w0 X p B q d db count j j.all s m) (hc : j.cut = false) (ho : s.of = false) (ha : s.ar = false) (hc8 : count ≤ 8) (x : Opx) (hx : x.Ok) {X' U' : World} {e1 e2 : Ending} (hX : Below X.heap.size X X') (h1 : KeepPost X' p B (count + 2) (count + 2) q 1 (count / 2) [q, p, B] (doesJ (count + 2) 1 (count / 2) j x s) e1 U) (hU : Below U.heap.size U U') (h2 : MPost U' d db count (doesM count j.all x) e2 V) :
    e1 = .returned (.int .i64 (doesM count j.all x).1) ∧ e2 = .returned (.int .i64 (doesM count j.all x).1) ∧ ∃ j' s', One w0 V p B q d db count j' j'.all s' (m + 70000) ∧ j'.cut = false ∧ s'.of = false ∧ s'.ar = false := by
  have h' := h.next hX
  obtain ⟨j', s', he, hall, hcut, hJ, hF, hA, hof, har, hK, es⟩ := Jat.done (count := count) h'.a hc ho ha x hx h1
  obtain ⟨rfl, hM, hKm⟩ := h2
  have nb : ∀ y ∈ [p, B, q], y ≠ db := fun y hy e => h.nd.2 (e ▸ hy)
  have dl : d < X'.heap.size := lt_of_heap h'.ms.top
  have dbl : db < X'.heap.size := lt_of_heap h'.ms.row
  have hMU : IsM U' d db count j.all := (h'.ms.kp hK h.nd.1 h.nd.2).next hU
  have hJU := hJ.next hU
  refine ⟨he, rfl, j', s', ⟨?_, (hF.next hU).kp hKm (by simpa using nb p (by simp)) (by simpa using nb B (by simp)), by rw [es]; exact doesJ_le h.le h.a.op.grp hx (by omega), ⟨hJU.js.kpM hMU hKm (nb q (by simp)), hJ.op, hJ.qp, hJ.qB, hJ.pS, hJ.BS, hJ.qS, fun y hy => Nat.lt_of_lt_of_le (hJU.lt y hy) hKm.size⟩, by rw [hall]; exact hM, h.nd, h.new, h.away.trans hA, h.newd⟩, hcut, hof, har⟩
  have b1 : Below w0.heap.size w0 U := hK.below h'.bel h'.bel.size h.new
  have b2 : Below w0.heap.size w0 U' := Below.andThen b1 hU
  refine hKm.below b2 b2.size (fun y hy => ?_)
  obtain rfl : y = db := by simpa using hy
  exact h.newd
/-- The journal was opened again. -/
theorem One.reopen {w0 X V Z : World} {p B q q' d db d' db' count : Nat} {j : JS} {al : List Gp} {s : FS} {m : Nat} (h : One w0 X p B q d db count j al s m) (hc2 : 2 ≤ count) (hb : Below X.heap.size X V) (hq : X.heap.size ≤ q') (hJ : IsJ V [q', p, B] q' p 1 (count / 2) (opn s.cs 1 (count / 2))) (hK : Below V.heap.size V Z) (hM : IsM Z d' db' count (dropG j.all)) (hd : V.heap.size ≤ d') (hdb : V.heap.size ≤ db') : One w0 Z p B q' d' db' count (opn s.cs 1 (count / 2)) (opn s.cs 1 (count / 2)).all s m ∧ (opn s.cs 1 (count / 2)).cut = false := by
  have hl := h.lt
  have lp := hl p (by simp)
  have lB := hl B (by simp)
  have hs := hb.size
  have hw := h.bel.size
  have hn := h.new
  have ql : q' < V.heap.size := by obtain ⟨_, h, _⟩ := hJ; exact lt_of_heap h
  have hJ2 := Jat.opened h.fs hb hq hJ hc2 (by omega) (by simp) (by simp) (by simp; omega)
  have np := hn p (by simp)
  have nB := hn B (by simp)
  refine ⟨⟨Below.andThen (Below.andThen h.bel hb) hK, (h.fs.next hb).next hK, h.le, hJ2.next hK, ?_, by simp; omega, by simp; omega, h.away, by omega⟩, (Go.Proofs.Ytgpbmccjcjoijaa.opened (first := 1) (count := count) (n := count + 2) (s := s) h.fs.oct h.fs.len (by omega) hc2).2⟩
  rw [h.a.op.again]
  exact hM
#print axioms One.step
#print axioms One.reopen
end Go.Proofs.Ytgpbmccjcjoijaa
namespace Go.Proofs.Ytgpbmccjcjoijaa
open Go.RowKit

theorem Open.same {n first k : Nat} {j : JS} {s s' : FS} (h : Open n first k j s) (e : s'.cs = s.cs) : Open n first k j s' := ⟨by rw [e]; exact h.inv, by rw [e]; exact h.oct, by rw [e]; exact h.len, h.fit, h.k1, h.grp⟩
theorem drop_form (g : Gp) : (if g.stays then g else gp0) = gp0 ∨ ((if g.stays then g else gp0).there = true ∧ (if g.stays then g else gp0).marked = false) := by
  by_cases h : g.stays = true
  · rw [if_pos h]
    unfold Gp.stays at h
    simp at h
    exact .inr h
  · rw [if_neg h]; exact .inl rfl
theorem agr1_eq {x y : Gp} (hx : x = gp0 ∨ (x.there = true ∧ x.marked = false)) (hy : y = gp0 ∨ (y.there = true ∧ y.marked = false)) (h : agr1 x y = true) : x = y := by
  unfold agr1 at h
  simp at h
  obtain ⟨h1, h2⟩ := h
  rcases hx with rfl | ⟨a, b⟩
  · rcases hy with rfl | ⟨c, d⟩
    · rfl
    · rw [c] at h1; cases h1
  · rcases hy with rfl | ⟨c, d⟩
    · rw [a] at h1; cases h1
    · obtain ⟨xt, xm, xb⟩ := x
      obtain ⟨yt, ym, yb⟩ := y
      dsimp only at *
      subst a b c d
      rcases h2 with h2 | rfl
      · cases h2
      · rfl
theorem agr_drop {a b : List Gp} (ha : a.length = 16) (hb : b.length = 16) (h : agr (dropG a) (dropG b) = true) : dropG a = dropG b := by
  apply List.ext_getElem
  · rw [dropG_len, dropG_len, ha, hb]
  · intro i h1 h2
    rw [dropG_len] at h1 h2
    have h3 := agr_at h i (by omega)
    rw [getD_some (List.getElem?_eq_getElem (by rw [dropG_len]; exact h1)), getD_some (List.getElem?_eq_getElem (by rw [dropG_len]; exact h2))] at h3
    refine agr1_eq ?_ ?_ h3
    · have : (dropG a)[i]'(by rw [dropG_len]; exact h1) = if (a[i]).stays then a[i] else gp0 := by simp [dropG]
      rw [this]; exact drop_form _
    · have : (dropG b)[i]'(by rw [dropG_len]; exact h2) = if (b[i]).stays then b[i] else gp0 := by simp [dropG]
      rw [this]; exact drop_form _
theorem GOk.drop {all : List Gp} (h : GOk all) : GOk (dropG all) := ⟨by rw [dropG_len]; exact h.n16, fun g hg => by
  unfold dropG at hg
  obtain ⟨x, hx, rfl⟩ := List.mem_map.1 hg
  by_cases hs : x.stays = true
  · rw [if_pos hs]; exact h.grp x hx
  · rw [if_neg hs]; exact ⟨by simp [gp0], fun y hy => by simp [gp0] at hy⟩⟩
/-- The flash's power is set otherwise. -/
theorem One.flash {w0 wr w' : World} {p B q d db count : Nat} {j : JS} {al : List Gp} {s s' : FS} {m : Nat} (h : One w0 wr p B q d db count j al s m) (e : s'.cs = s.cs) (hl : s'.Le m) (hF : IsS w' p B (count + 2) (count + 2) s') (hK : Kp [p] wr w') : One w0 w' p B q d db count j al s' m :=
  ⟨hK.below h.bel h.bel.size (fun x hx => by simp at hx; subst hx; exact h.new _ (by simp)), hF, hl, ⟨h.a.js.kp hK (by simpa using h.a.qp) (fun x hx => by simp at hx; subst hx; exact h.a.pS), h.a.op.same e, h.a.qp, h.a.qB, h.a.pS, h.a.BS, h.a.qS, fun x hx => Nat.lt_of_lt_of_le (h.a.lt x hx) hK.size⟩, h.ms.kp hK (fun hh => h.nd.1 (by simp at hh ⊢; exact .inl hh)) (fun hh => h.nd.2 (by simp at hh ⊢; exact .inl hh)), h.nd, h.new, by rw [e]; exact h.away, h.newd⟩
/-- A journal that was cut; what was there, and what would be there. -/
structure Gone (w0 Z : World) (p B q d db d2 db2 count : Nat) (j : JS) (M : List Gp) (s : FS) (m : Nat) : Prop where
  bel : Below w0.heap.size w0 Z
  fs : IsS Z p B (count + 2) (count + 2) s
  le : s.Le m
  js : IsJ Z [q, p, B] q p 1 (count / 2) j
  ok : j.Ok (count / 2)
  cut : j.cut = true
  qp : q ≠ p
  qB : q ≠ B
  lt : ∀ x ∈ [q, p, B], x < Z.heap.size
  found : (opn s.cs 1 (count / 2)).all = dropG j.all
  m1 : IsM Z d db count j.all
  m2 : IsM Z d2 db2 count M
  n1 : d ∉ [p, B, q] ∧ db ∉ [p, B, q]
  n2 : d2 ∉ [p, B, q] ∧ db2 ∉ [p, B, q]
  new : ∀ x ∈ [p, B, q], w0.heap.size ≤ x
  g1 : GOk j.all
  g2 : GOk M
  away : Away 1 (count / 2 + count / 2) (begC count) s.cs
theorem Gone.next {w0 Z Z' : World} {p B q d db d2 db2 count : Nat} {j : JS} {M : List Gp} {s : FS} {m : Nat} (h : Gone w0 Z p B q d db d2 db2 count j M s m) (hb : Below Z.heap.size Z Z') : Gone w0 Z' p B q d db d2 db2 count j M s m :=
  ⟨Below.andThen h.bel hb, h.fs.next hb, h.le, h.js.next hb, h.ok, h.cut, h.qp, h.qB, fun x hx => Nat.lt_of_lt_of_le (h.lt x hx) hb.size, h.found, h.m1.next hb, h.m2.next hb, h.n1, h.n2, h.new, h.g1, h.g2, h.away⟩
theorem Gone.call {w0 Z Z' : World} {p B q d db d2 db2 count : Nat} {j : JS} {M : List Gp} {s : FS} {m : Nat} (h : Gone w0 Z p B q d db d2 db2 count j M s m) {e : Ending} (hp : KeepPost Z p B (count + 2) (count + 2) q 1 (count / 2) [q, p, B] (7, j, s) e Z') : e = .returned (.int .i64 7) ∧ Gone w0 Z' p B q d db d2 db2 count j M s m := by
  obtain ⟨rfl, hF, hJ, hK⟩ := hp
  exact ⟨rfl, hK.below h.bel h.bel.size h.new, hF, h.le, hJ, h.ok, h.cut, h.qp, h.qB, fun x hx => Nat.lt_of_lt_of_le (h.lt x hx) hK.size, h.found, h.m1.kp hK h.n1.1 h.n1.2, h.m2.kp hK h.n2.1 h.n2.2, h.n1, h.n2, h.new, h.g1, h.g2, h.away⟩
theorem Gone.on {w0 Z Z' : World} {p B q d db d2 db2 count : Nat} {j : JS} {M : List Gp} {s : FS} {m : Nat} (h : Gone w0 Z p B q d db d2 db2 count j M s m) (hF : IsF Z' p B (count + 2) (count + 2) s.cs s.st false 0 false) (hK : Kp [p] Z Z') : Gone w0 Z' p B q d db d2 db2 count j M ⟨s.cs, s.st, false, 0, false⟩ m :=
  ⟨hK.below h.bel h.bel.size (fun x hx => by simp at hx; subst hx; exact h.new _ (by simp)), hF, ⟨h.le.st0, h.le.st1, by show (0 : Int) ≤ 0; decide, by show (0 : Int) < _; decide⟩, h.js.kp hK (by simpa using h.qp) (fun x hx => by simp at hx; subst hx; simp), h.ok, h.cut, h.qp, h.qB, fun x hx => Nat.lt_of_lt_of_le (h.lt x hx) hK.size, h.found, h.m1.kp hK (fun hh => h.n1.1 (by simp at hh ⊢; exact .inl hh)) (fun hh => h.n1.2 (by simp at hh ⊢; exact .inl hh)), h.m2.kp hK (fun hh => h.n2.1 (by simp at hh ⊢; exact .inl hh)) (fun hh => h.n2.2 (by simp at hh ⊢; exact .inl hh)), h.n1, h.n2, h.new, h.g1, h.g2, h.away⟩
theorem JS.cut_id {j : JS} (h : j.cut = true) : ({ j with cut := true } : JS) = j := by obtain ⟨a, b, c, d, e, f⟩ := j; cases h; rfl
theorem Gone.store {w0 Z : World} {p B q d db d2 db2 count : Nat} {j : JS} {M : List Gp} {s : FS} {m : Nat} (h : Gone w0 Z p B q d db d2 db2 count j M s m) (hm : m ≤ 700000000) (hc : 2 ≤ count) (hc8 : count ≤ 8) :
    Calls Try.prog 17 #[.pointer (some ⟨q, 0, none⟩), .int .u8 0, .slice none 0 0] Z fun e w' => KeepPost Z p B (count + 2) (count + 2) q 1 (count / 2) [q, p, B] (7, j, s) e w' := by
  have := store_any h.fs m h.le hm h.js h.ok h.qp h.qB (by omega) (by omega) (by omega) (by simp) (by simp) (by simp) h.lt 0 (by omega) [] none 0 0 (row_nil Z) (by omega) (fun hp => absurd hp (by omega))
  have e : storeJ (count + 2) 1 (count / 2) j 0 [] s = (7, j, s) := by
    unfold storeJ
    rw [if_neg (by decide), if_neg (by simp), if_pos (by rw [h.cut]; rfl), JS.cut_id h.cut]
  rw [e] at this
  exact this
theorem Gone.restore {w0 Z : World} {p B q d db d2 db2 count : Nat} {j : JS} {M : List Gp} {s : FS} {m : Nat} (h : Gone w0 Z p B q d db d2 db2 count j M s m) (hm : m ≤ 700000000) (hc : 2 ≤ count) (hc8 : count ≤ 8) :
    Calls Try.prog 13 #[.pointer (some ⟨q, 0, none⟩), .int .u8 0] Z fun e w' => KeepPost Z p B (count + 2) (count + 2) q 1 (count / 2) [q, p, B] (7, j, s) e w' := by
  have := restore_any h.fs m h.le hm h.js h.ok h.qp h.qB (by omega) (by omega) (by simp) (by simp) (by simp) 0 _ (h.g1.at (by omega))
  have e : restoreJ (count + 2) 1 (count / 2) j 0 (j.all.getD 0 gp0) s = (7, j, s) := by
    unfold restoreJ
    rw [if_pos (by rw [h.cut]; rfl), JS.cut_id h.cut]
  rw [e] at this
  exact this
/-- It is opened again. -/
theorem Gone.open {w0 Z V Y : World} {p B q q' d db d2 db2 D DB count : Nat} {j : JS} {M : List Gp} {s : FS} {m : Nat} (h : Gone w0 Z p B q d db d2 db2 count j M s m) (hc2 : 2 ≤ count) (hb : Below Z.heap.size Z V) (hq : Z.heap.size ≤ q') (hJ : IsJ V [q', p, B] q' p 1 (count / 2) (opn s.cs 1 (count / 2))) (hV : Below V.heap.size V Y) (hM : IsM Y D DB count (dropG j.all)) (hd : V.heap.size ≤ D) (hdb : V.heap.size ≤ DB) : One w0 Y p B q' D DB count (opn s.cs 1 (count / 2)) (opn s.cs 1 (count / 2)).all s m ∧ (opn s.cs 1 (count / 2)).cut = false := by
  have lp := h.lt p (by simp)
  have lB := h.lt B (by simp)
  have hs := hb.size
  have hw := h.bel.size
  have ql : q' < V.heap.size := by obtain ⟨_, h, _⟩ := hJ; exact lt_of_heap h
  have hJ2 := Jat.opened h.fs hb hq hJ hc2 (by omega) (by simp) (by simp) (by simp; omega)
  have np := h.new p (by simp)
  have nB := h.new B (by simp)
  refine ⟨⟨Below.andThen (Below.andThen h.bel hb) hV, (h.fs.next hb).next hV, h.le, hJ2.next hV, ?_, by simp; omega, by simp; omega, h.away, by omega⟩, (Go.Proofs.Ytgpbmccjcjoijaa.opened (first := 1) (count := count) (n := count + 2) (s := s) h.fs.oct h.fs.len (by omega) hc2).2⟩
  rw [h.found]
  exact hM
theorem doesM_ok {count : Nat} {all : List Gp} (h : GOk all) (x : Opx) (hx : x.Ok) : GOk (doesM count all x).2 := by
  have g0 := hx.g0
  unfold doesM
  split
  · split
    · exact h
    · unfold mRestore
      split
      · have hg := h.grp _ (List.mem_of_getElem? (h.at (i := x.grp.toNat) (by omega)))
        exact h.set _ _ hg
      · exact h
  · unfold mStore
    split
    · exact h
    · split
      · exact h
      · split
        · exact h
        · unfold take1
          rw [if_pos rfl]
          refine h.set _ _ ⟨by show x.all.length ≤ 4096; omega, ?_⟩
          show Oct x.all
          unfold Opx.all
          exact hx.oct.app (fun n hn => by rw [List.eq_of_mem_replicate hn]; decide)
/-- A call was made: it was answered, or the power went. -/
theorem One.does {w0 X Y Z : World} {p B q d db d2 db2 count : Nat} {j : JS} {s : FS} {m : Nat} (h : One w0 X p B q d db count j j.all s m) (hc : j.cut = false) (ho : s.of = false) (hc8 : count ≤ 8) (hc2 : 2 ≤ count) (x : Opx) (hx : x.Ok) (hY : Kp [] X Y) (hd : X.heap.size ≤ d2) (hdb : X.heap.size ≤ db2) (hM : IsM Y d2 db2 count (doesM count j.all x).2) {e : Ending} (hp : KeepPost Y p B (count + 2) (count + 2) q 1 (count / 2) [q, p, B] (doesJ (count + 2) 1 (count / 2) j x s) e Z) :
    (e = .returned (.int .i64 (doesM count j.all x).1) ∧ ∃ j' s', One w0 Z p B q d2 db2 count j' j'.all s' (m + 70000) ∧ j'.cut = false ∧ s'.of = false) ∨
    (e = .returned (.int .i64 7) ∧ (doesM count j.all x).1 = 0 ∧ ∃ j' s', Gone w0 Z p B q d db d2 db2 count j' (doesM count j.all x).2 s' (m + 70000) ∧ s'.of = true) := by
  have h' := h.next hY.bel
  obtain ⟨rfl, hF, hJ, hK⟩ := hp
  have hle := doesJ_le (n := count + 2) (first := 1) (k := count / 2) (j := j) (x := x) h.le h.a.op.grp hx (by omega)
  have nd := not_old h.lt hd
  have ndb := not_old h.lt hdb
  have b1 : Below w0.heap.size w0 Z := hK.below h'.bel h'.bel.size h.new
  have hw := h.bel.size
  rcases doesJ_res (count := count) rfl h.a.op hc ho x hx with ⟨r1, r2, r3, r4, r5, r6, r7⟩ | ⟨m0, r1, r2, r3, r4, r5, _⟩
  · refine .inl ⟨by rw [r1], _, _, ⟨b1, hF, hle, ⟨hJ, r4, h.a.qp, h.a.qB, h.a.pS, h.a.BS, h.a.qS, fun y hy => Nat.lt_of_lt_of_le (h'.a.lt y hy) hK.size⟩, ?_, ⟨nd, ndb⟩, h.new, h.away.trans r5, by omega⟩, r3, r6⟩
    rw [r2]
    exact hM.kp hK nd ndb
  · refine .inr ⟨by rw [r1], m0, _, _, ⟨b1, hF, hle, hJ, ?_, ?_, h.a.qp, h.a.qB, fun y hy => Nat.lt_of_lt_of_le (h'.a.lt y hy) hK.size, ?_, ?_, hM.kp hK nd ndb, h.nd, ⟨nd, ndb⟩, h.new, ?_, doesM_ok h.a.op.grp x hx, h.away.trans r4⟩, r5⟩
    · obtain ⟨o1, o2, o3⟩ := h.a.op.ok
      rw [r2]; exact ⟨o1, o2, o3⟩
    · rw [r2]
    · rw [r3, r2]
    · rw [r2]; exact h'.ms.kp hK h.nd.1 h.nd.2
    · rw [r2]; exact h.a.op.grp
#print axioms One.does
#print axioms Gone.open
end Go.Proofs.Ytgpbmccjcjoijaa
