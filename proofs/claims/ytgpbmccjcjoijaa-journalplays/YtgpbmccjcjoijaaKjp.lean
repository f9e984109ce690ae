/-
  One journal beside the document's: for JournalPlays and JournalCuts.
-/
import Derived.Test.YtgpbmccjcjoijaaKjt
namespace Go.Proofs.Ytgpbmccjcjoijaa
open Go.RowKit

theorem mflat_kind {all : List Gp} : ∀ v ∈ mflat all, ∀ z, v ≠ .int .u8 z := by
  intro v hv z
  obtain ⟨g, _, hg⟩ := List.mem_flatMap.1 hv
  simp [mcell] at hg
  rcases hg with rfl | rfl | rfl <;> simp
theorem IsM.not {w : World} {d db count : Nat} {all : List Gp} (h : IsM w d db count all) {off : Nat} {z : Int} (hc : w.cell? ⟨db, off, none⟩ = some (.int .u8 z)) : False := by
  rw [cell_of_row w _ _ _ _ _ h.row, List.getElem?_toArray] at hc
  exact mflat_kind _ (List.mem_of_getElem? hc) z rfl
theorem Row.kpM {w w' : World} {a : Option Addr} {len : Nat} {zs : List Int} {d db count : Nat} {all : List Gp} (h : Row w a len zs) (hM : IsM w d db count all) (k : Kp [db] w w') : Row w' a len zs := h.kp' k (fun hp b off e hm => by
  obtain ⟨b', off', e', hc⟩ := h.at_ hp
  rw [e] at e'
  cases e'
  have h0 := hc 0 hp
  obtain rfl : b = db := by simpa using hm
  exact hM.not h0)
theorem IsJ.kpM {w w' : World} {S : List Nat} {q p first k : Nat} {j : JS} {d db count : Nat} {all : List Gp} (h : IsJ w S q p first k j) (hM : IsM w d db count all) (hk : Kp [db] w w') (hq : q ≠ db) : IsJ w' S q p first k j := by
  obtain ⟨ss, h, hI⟩ := h
  refine ⟨ss, (hk.block q (lt_of_heap h) (by simpa using hq)).trans h, hI.n1, hI.n2, fun i g s h1 h2 => ?_⟩
  obtain ⟨r, l, hn⟩ := hI.row i g s h1 h2
  exact ⟨r.kpM hM hk, l, hn⟩
/-- One journal in a flash, side by side with the document's. -/
structure One (w0 wr : World) (p B q d db count : Nat) (j : JS) (al : List Gp) (s : FS) (m : Nat) : Prop where
  bel : Below w0.heap.size w0 wr
  fs : IsS wr p B (count + 2) (count + 2) s
  le : s.Le m
  a : Jat wr [q, p, B] q p B (count + 2) 1 (count / 2) j s
  ms : IsM wr d db count al
  nd : d ∉ [p, B, q] ∧ db ∉ [p, B, q]
  new : ∀ x ∈ [p, B, q], w0.heap.size ≤ x
  away : Away 1 (count / 2 + count / 2) (begC count) s.cs
  newd : w0.heap.size ≤ db
theorem One.next {w0 wr w' : World} {p B q d db count : Nat} {j : JS} {al : List Gp} {s : FS} {m : Nat} (h : One w0 wr p B q d db count j al s m) (hb : Below wr.heap.size wr w') : One w0 w' p B q d db count j al s m :=
  ⟨Below.andThen h.bel hb, h.fs.next hb, h.le, h.a.next hb, h.ms.next hb, h.nd, h.new, h.away, h.newd⟩
theorem One.more {w0 wr : World} {p B q d db count : Nat} {j : JS} {al : List Gp} {s : FS} {m k : Nat} (h : One w0 wr p B q d db count j al s m) (hm : m ≤ k) : One w0 wr p B q d db count j al s k :=
  ⟨h.bel, h.fs, h.le.more hm, h.a, h.ms, h.nd, h.new, h.away, h.newd⟩
theorem One.lt {w0 wr : World} {p B q d db count : Nat} {j : JS} {al : List Gp} {s : FS} {m : Nat} (h : One w0 wr p B q d db count j al s m) : ∀ y ∈ [p, B, q], y < wr.heap.size := fun y hy => h.a.lt y (by simp at hy ⊢; omega)
/-- The program's calls, by the call that is asked for. -/
theorem restore_both {w : World} {p B n cap : Nat} {s : FS} (hF : IsS w p B n cap s) (m : Nat) (hm : s.Le m) (hm2 : m ≤ 700000000) {q first k : Nat} {j : JS} {S : List Nat} (hJ : Jat w S q p B n first k j s) (hk : 1 ≤ k) (x : Opx) (hx : x.Ok) (h3 : x.kind % 6 = 3) :
    Calls Try.prog 13 #[.pointer (some ⟨q, 0, none⟩), .int .u8 x.grp] w fun e w' => KeepPost w p B n cap q first k S (doesJ n first k j x s) e w' := by
  have g0 := hx.g0
  unfold doesJ
  rw [if_pos h3]
  by_cases hg : 16 ≤ x.grp
  · rw [if_pos hg]
    refine (restore_big q x.grp hg).mono ?_
    rintro e w' ⟨rfl, rfl⟩
    exact ⟨rfl, hF, hJ.js, Kp.refl _ _⟩
  · rw [if_neg hg]
    obtain ⟨G, hG⟩ := Int.eq_ofNat_of_zero_le g0.1
    have := restore_any hF m hm hm2 hJ.js hJ.op.ok hJ.qp hJ.qB hk hJ.op.fit hJ.pS hJ.BS hJ.qS G _ (hJ.op.grp.at (show G < 16 by omega))
    rw [hG]
    exact this
theorem store_both {w : World} {p B n cap : Nat} {s : FS} (hF : IsS w p B n cap s) (m : Nat) (hm : s.Le m) (hm2 : m ≤ 700000000) {q first k : Nat} {j : JS} {S : List Nat} (hJ : Jat w S q p B n first k j s) (hk : 1 ≤ k) (hk2 : k ≤ 1000) (x : Opx) (hx : x.Ok) (h3 : ¬ x.kind % 6 = 3) (a : Option Addr) (cap2 : Nat) (hr : Row w a x.all.length x.all) (hn : 0 < x.all.length → ∀ b off, a = some ⟨b, off, none⟩ → b ∉ S) :
    Calls Try.prog 17 #[.pointer (some ⟨q, 0, none⟩), .int .u8 x.grp, .slice a x.all.length cap2] w fun e w' => KeepPost w p B n cap q first k S (doesJ n first k j x s) e w' := by
  unfold doesJ
  rw [if_neg h3]
  have := x.all_len hx
  exact store_any hF m hm hm2 hJ.js hJ.op.ok hJ.qp hJ.qB hk hk2 hJ.op.fit hJ.pS hJ.BS hJ.qS hJ.lt x.grp hx.g0.1 x.all a _ cap2 hr (by omega) hn
theorem rrestore_both {w : World} {d db count : Nat} {all : List Gp} (hM : IsM w d db count all) (hG : GOk all) (x : Opx) (hx : x.Ok) (h3 : x.kind % 6 = 3) :
    Calls Try.prog 14 #[.pointer (some ⟨d, 0, none⟩), .int .u8 x.grp] w fun e w' => MPost w d db count (doesM count all x) e w' := by
  have g0 := hx.g0
  unfold doesM
  rw [if_pos h3]
  by_cases hg : 16 ≤ x.grp
  · rw [if_pos hg]
    refine (rrestore_big d x.grp hg).mono ?_
    rintro e w' ⟨rfl, rfl⟩
    exact ⟨rfl, hM, Kp.refl _ _⟩
  · rw [if_neg hg]
    obtain ⟨G, hG'⟩ := Int.eq_ofNat_of_zero_le g0.1
    have := rrestore_any hM G _ (hG.at (show G < 16 by omega))
    rw [hG']
    exact this
theorem rstore_both {w : World} {d db count : Nat} {all : List Gp} (hM : IsM w d db count all) (hG : GOk all) (hc : count ≤ 1000) (hc2 : 2 ≤ count) (x : Opx) (hx : x.Ok) (h3 : ¬ x.kind % 6 = 3) (a : Option Addr) (cap2 : Nat) (hr : Row w a x.all.length x.all) :
    Calls Try.prog 18 #[.pointer (some ⟨d, 0, none⟩), .int .u8 x.grp, .slice a x.all.length cap2] w fun e w' => MPost w d db count (doesM count all x) e w' := by
  unfold doesM
  rw [if_neg h3]
  refine rstore_any hM hG.lens hc hc2 x.grp hx.g0.1 x.all a _ cap2 hr (fun hp b off e hm => ?_)
  obtain ⟨b', off', e', hcc⟩ := hr.at_ hp
  rw [e] at e'
  cases e'
  have h0 := hcc 0 hp
  obtain rfl : b = db := by simpa using hm
  exact hM.not h0
/-- Both were called. -/
theorem One.step {w0 X U V : World} {p B q d db count : Nat} {j : JS} {s : FS} {m : Nat} (h : One w0 X p B q d db count j j.all s m) (hc : j.cut = false) (ho : s.of = false) (ha : s.ar = false) (hc8 : count ≤ 8) (x : Opx) (hx : x.Ok) {X' U' : World} {e1 e2 : Ending} (hX : Below X.heap.size X X') (h1 : KeepPost X' p B (count + 2) (count + 2) q 1 (count / 2) [q, p, B] (doesJ (count + 2) 1 (count / 2) j x s) e1 U) (hU : Below U.heap.size U U') (h2 : MPost U' d db count (doesM count j.all x) e2 V) :
    e1 = .returned (.int .i64 (doesM count j.all x).1) ∧ e2 = .returned (.int .i64 (doesM count j.all x).1) ∧ ∃ j' s', One w0 V p B q d db count j' j'.all s' (m + 70000) ∧ j'.cut = false ∧ s'.of = false ∧ s'.ar = false := by
  have h' := h.next hX
  obtain ⟨j', s', he, hall, hcut, hJ, hF, hA, hof, har, hK, es⟩ := Jat.done (count := count) h'.a hc ho ha x hx h1
  obtain ⟨rfl, hM, hKm⟩ := h2
  have nb : ∀ y ∈ [p, B, q], y ≠ db := fun y hy e => h.nd.2 (e ▸ hy)
  have dl : d < X'.heap.size := lt_of_heap h'.ms.top
  have dbl : db < X'.heap.size := lt_of_heap h'.ms.row
  have hMU : IsM U' d db count j.all := (h'.ms.kp hK h.nd.1 h.nd.2).next hU
  have hJU := hJ.next hU
  refine ⟨he, rfl, j', s', ⟨?_, (hF.next hU).kp hKm (by simpa using nb p (by simp)) (by simpa using nb B (by simp)), by rw [es]; exact doesJ_le h.le h.a.op.grp hx (by omega), ⟨hJU.js.kpM hMU hKm (nb q (by simp)), hJ.op, hJ.qp, hJ.qB, hJ.pS, hJ.BS, hJ.qS, fun y hy => Nat.lt_of_lt_of_le (hJU.lt y hy) hKm.size⟩, by rw [hall]; exact hM, h.nd, h.new, h.away.trans hA, h.newd⟩, hcut, hof, har⟩
  have b1 : Below w0.heap.size w0 U := hK.below h'.bel h'.bel.size h.new
  have b2 : Below w0.heap.size w0 U' := Below.andThen b1 hU
  refine hKm.below b2 b2.size (fun y hy => ?_)
  obtain rfl : y = db := by simpa using hy
  exact h.newd
/-- The journal was opened again. -/
theorem One.reopen {w0 X V Z : World} {p B q q' d db d' db' count : Nat} {j : JS} {al : List Gp} {s : FS} {m : Nat} (h : One w0 X p B q d db count j al s m) (hc2 : 2 ≤ count) (hb : Below X.heap.size X V) (hq : X.heap.size ≤ q') (hJ : IsJ V [q', p, B] q' p 1 (count / 2) (opn s.cs 1 (count / 2))) (hK : Below V.heap.size V Z) (hM : IsM Z d' db' count (dropG j.all)) (hd : V.heap.size ≤ d') (hdb : V.heap.size ≤ db') : One w0 Z p B q' d' db' count (opn s.cs 1 (count / 2)) (opn s.cs 1 (count / 2)).all s m ∧ (opn s.cs 1 (count / 2)).cut = false := by
  have hl := h.lt
  have lp := hl p (by simp)
  have lB := hl B (by simp)
  have hs := hb.size
  have hw := h.bel.size
  have hn := h.new
  have ql : q' < V.heap.size := by obtain ⟨_, h, _⟩ := hJ; exact lt_of_heap h
  have hJ2 := Jat.opened h.fs hb hq hJ hc2 (by omega) (by simp) (by simp) (by simp; omega)
  have np := hn p (by simp)
  have nB := hn B (by simp)
  refine ⟨⟨Below.andThen (Below.andThen h.bel hb) hK, (h.fs.next hb).next hK, h.le, hJ2.next hK, ?_, by simp; omega, by simp; omega, h.away, by omega⟩, (Go.Proofs.Ytgpbmccjcjoijaa.opened (first := 1) (count := count) (n := count + 2) (s := s) h.fs.oct h.fs.len (by omega) hc2).2⟩
  rw [h.a.op.again]
  exact hM
#print axioms One.step
#print axioms One.reopen
end Go.Proofs.Ytgpbmccjcjoijaa
