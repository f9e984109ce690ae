/-
  SyncFollows of any producer, any row of times and any frame besides.
-/
import Derived.Test.YtlijkgkkoahajaaYi
import Derived.Test.YtlijkgkkoahajaaYk
import Derived.Test.YtlijkgkkoahajaaYp
import Derived.Test.YtlijkgkkoahajaaTk9
namespace Go.Proofs.Ytlijkgkkoahajaa
open Go.RowKit

/-- A producer, and a consumer that has heard all of it. -/
structure Fol (w : World) (p q B : Nat) (id P top S i n d0 d1 d2 d3 d4 d5 d6 d7 : Int) (r : Bool) (due m last : Int) (c : Cst) (k : Int) : Prop where
  hp : w.heap[p]? = some (.cells (prC id top P true due m) 81 (0, 0))
  hq : w.heap[q]? = some (.cells (csC id top 0 c.hd c.a c.n c.lo c.wr) 86 (0, 0))
  hb : w.heap[B]? = some (.cells (frC i n d0 d1 d2 d3 d4 d5 d6 d7 r) 39 (0, 0))
  m1 : 1 ≤ m ∧ m ≤ 240
  m0 : top = 0 → m = 1
  mt : top ≠ 0 → m ≤ top
  k1 : 1 ≤ k
  du : due = S + k * P
  la : -1 ≤ last ∧ last ≤ k - 1
  co : c.Ok top
  lo : c.lo = 0
  wr : c.wr = 0
  fo : c.hd = true → top ≠ 0 → nxt top c.n = m
theorem Fol.pq {w : World} {p q B : Nat} {id P top S i n d0 d1 d2 d3 d4 d5 d6 d7 : Int} {r : Bool} {due m last : Int} {c : Cst} {k : Int} (h : Fol w p q B id P top S i n d0 d1 d2 d3 d4 d5 d6 d7 r due m last c k) : p ≠ q ∧ p ≠ B ∧ q ≠ B := by
  refine ⟨?_, ?_, ?_⟩
  · intro e; subst e; have := h.hp.symm.trans h.hq; simp at this
  · intro e; subst e; have := h.hp.symm.trans h.hb; simp at this
  · intro e; subst e; have := h.hq.symm.trans h.hb; simp at this
theorem Fol.next {w w' : World} {p q B : Nat} {id P top S i n d0 d1 d2 d3 d4 d5 d6 d7 : Int} {r : Bool} {due m last : Int} {c : Cst} {k : Int} (h : Fol w p q B id P top S i n d0 d1 d2 d3 d4 d5 d6 d7 r due m last c k) (b : Below w.heap.size w w') : Fol w' p q B id P top S i n d0 d1 d2 d3 d4 d5 d6 d7 r due m last c k :=
  ⟨blk11 b h.hp, blk11 b h.hq, blk11 b h.hb, h.m1, h.m0, h.mt, h.k1, h.du, h.la, h.co, h.lo, h.wr, h.fo⟩
theorem Fol.same {w w' : World} {p q B : Nat} {id P top S i n d0 d1 d2 d3 d4 d5 d6 d7 : Int} {r : Bool} {due m last : Int} {c : Cst} {k : Int} (h : Fol w p q B id P top S i n d0 d1 d2 d3 d4 d5 d6 d7 r due m last c k) (hp : w'.heap[p]? = w.heap[p]?) (hq : w'.heap[q]? = w.heap[q]?) (hb : w'.heap[B]? = w.heap[B]?) : Fol w' p q B id P top S i n d0 d1 d2 d3 d4 d5 d6 d7 r due m last c k :=
  ⟨hp.trans h.hp, hq.trans h.hq, hb.trans h.hb, h.m1, h.m0, h.mt, h.k1, h.du, h.la, h.co, h.lo, h.wr, h.fo⟩
theorem fol_due {S P k t : Int} (hP : 1 ≤ P) : S + k * P + ((t - (S + k * P)) / P + 1) * P = S + ((t - S) / P + 1) * P := by
  have e : (t - S) / P = (t - (S + k * P)) / P + k := by
    rw [show t - S = (t - (S + k * P)) + k * P from by omega, Int.add_mul_ediv_right _ _ (by omega)]
  rw [e, show (t - (S + k * P)) / P + k + 1 = ((t - (S + k * P)) / P + 1) + k from by omega, Int.add_mul ((t - (S + k * P)) / P + 1) k P]
  omega
theorem fol_q {S P k t : Int} (hP : 1 ≤ P) (h : S + k * P ≤ t) : k ≤ (t - S) / P := by
  rw [Int.le_ediv_iff_mul_le (by omega)]; omega
/-- Behind a frame that was sent and heard. -/
theorem Fol.step {w w' : World} {p q B : Nat} {id P top S i n d0 d1 d2 d3 d4 d5 d6 d7 : Int} {r : Bool} {due m last : Int} {c : Cst} {k t : Int} (h : Fol w p q B id P top S i n d0 d1 d2 d3 d4 d5 d6 d7 r due m last c k) (hP : 1 ≤ P) (ht0 : 0 ≤ top) (ht : top ≤ 240) (hd : due ≤ t) (hm : tmB t = true)
    (hp : w'.heap[p]? = some (.cells (prC id top P true (S + ((t - S) / P + 1) * P) (nxt top m)) 81 (0, 0))) (hq : w'.heap[q]? = some (.cells (csC id top 0 true t (if top = 0 then 0 else m) 0 0) 86 (0, 0))) (hb : w'.heap[B]? = some (.cells (frC i n d0 d1 d2 d3 d4 d5 d6 d7 r) 39 (0, 0))) :
    Fol w' p q B id P top S i n d0 d1 d2 d3 d4 d5 d6 d7 r (S + ((t - S) / P + 1) * P) (nxt top m) ((t - S) / P) ⟨true, t, if top = 0 then 0 else m, 0, 0⟩ ((t - S) / P + 1) where
  hp := hp
  hq := hq
  hb := hb
  m1 := by have := h.m1; unfold nxt; split <;> omega
  m0 := fun e => by rw [h.m0 e, e]; rfl
  mt := fun e => by have := h.mt e; unfold nxt; split <;> omega
  k1 := by have := fol_q hP (k := k) (by rw [← h.du]; exact hd); have := h.k1; omega
  du := rfl
  la := by have := fol_q hP (k := k) (by rw [← h.du]; exact hd); have := h.k1; omega
  co := ⟨(tmB_of hm).1, (tmB_of hm).2, fun _ e => by have := h.mt e; have := h.m1; simp [e]; omega⟩
  lo := rfl
  wr := rfl
  fo := fun _ e => by simp [e]

set_option linter.unusedSimpArgs false in
set_option maxHeartbeats 4000000 in
set_option maxRecDepth 100000 in
theorem follows_bad1 (id P top S : Int) (a : Option Addr) (len cap : Nat) (fi fn d0 d1 d2 d3 d4 d5 d6 d7 : Int) (fr : Bool) (w : World) (h : npB id P top = false) (h2 : ncB id 0 top = false) : Calls Try.prog 5 #[.int .u16 id, .int .i64 P, .int .u8 top, .int .i64 S, .slice a len cap, frV fi fn d0 d1 d2 d3 d4 d5 d6 d7 fr] w fun e w' => e = .returned (.bool true) ∧ Below w.heap.size w w' := by
  have NP := fun X => newP_bad id P top h X
  have NC := fun X => newC_bad id 0 top h2 X
  clear h h2
  go_enter Try.func5, Try.ntmps5
  go_wp2_with fail
  refine (NP _).mono ?_
  rintro e w1 ⟨rfl, b1⟩
  have B1 : Below w.heap.size w w1 := Below.andThen (Below.al (Below.refl _ _) _) b1
  clear b1
  go_wp2_with fail
  refine (NC _).mono ?_
  rintro e w2 ⟨rfl, b2⟩
  go_wp2_with fail
  refine (works_any _).mono ?_
  rintro e w' ⟨rfl, hb⟩
  go_wp2_with fail
  go_ret
  exact ⟨rfl, Below.andThen (Below.andThen B1 b2) hb⟩
set_option linter.unusedSimpArgs false in
set_option maxHeartbeats 4000000 in
set_option maxRecDepth 100000 in
theorem follows_bad2 (id P top S : Int) (a : Option Addr) (len cap : Nat) (fi fn d0 d1 d2 d3 d4 d5 d6 d7 : Int) (fr : Bool) (w : World) (h : npB id P top = false) (h2 : ncB id 0 top = true) : Calls Try.prog 5 #[.int .u16 id, .int .i64 P, .int .u8 top, .int .i64 S, .slice a len cap, frV fi fn d0 d1 d2 d3 d4 d5 d6 d7 fr] w fun e w' => e = .returned (.bool true) ∧ Below w.heap.size w w' := by
  have NP := fun X => newP_bad id P top h X
  have NC := fun X => newC_ok id 0 top h2 X
  clear h h2
  go_enter Try.func5, Try.ntmps5
  go_wp2_with fail
  refine (NP _).mono ?_
  rintro e w1 ⟨rfl, b1⟩
  have B1 : Below w.heap.size w w1 := Below.andThen (Below.al (Below.refl _ _) _) b1
  clear b1
  go_wp2_with fail
  refine (NC _).mono ?_
  rintro e w2 ⟨⟨q, rfl, -, -⟩, b2⟩
  go_wp2_with fail
  refine (works_any _).mono ?_
  rintro e w' ⟨rfl, hb⟩
  go_wp2_with fail
  go_ret
  exact ⟨rfl, Below.andThen (Below.andThen B1 b2) hb⟩
set_option linter.unusedSimpArgs false in
set_option maxHeartbeats 4000000 in
set_option maxRecDepth 100000 in
theorem follows_many (id P top S : Int) (a : Option Addr) (len cap : Nat) (fi fn d0 d1 d2 d3 d4 d5 d6 d7 : Int) (fr : Bool) (w : World) (h : npB id P top = true) (hl : 300 < len) : Calls Try.prog 5 #[.int .u16 id, .int .i64 P, .int .u8 top, .int .i64 S, .slice a len cap, frV fi fn d0 d1 d2 d3 d4 d5 d6 d7 fr] w fun e w' => e = .returned (.bool true) ∧ Below w.heap.size w w' := by
  have NP := fun X => newP_ok id P top h X
  have NC := fun X => newC_ok id 0 top (by obtain ⟨h1, h2, _⟩ := npB_ok h; simp [ncB, h1, h2, tmB]) X
  obtain ⟨hi, ht, hP, hP2⟩ := npB_ok h
  have htt := tpB_le ht
  clear h ht
  have hl' : (300 : Int) < (len : Int) := by omega
  clear hi hP hP2 htt
  go_enter Try.func5, Try.ntmps5
  go_wp2_with fail
  refine (NP _).mono ?_
  rintro e w1 ⟨⟨p, rfl, lp, hp⟩, b1⟩
  have B1 : Below w.heap.size w w1 := Below.andThen (Below.al (Below.refl _ _) _) b1
  have f1 := blk11 b1 (at11 w (.cells (frC fi fn d0 d1 d2 d3 d4 d5 d6 d7 fr) 39) w.heap.size rfl)
  clear b1
  go_wp2_with fail
  refine (NC _).mono ?_
  rintro e w2 ⟨⟨q, rfl, lq, hq⟩, b2⟩
  have B2 : Below w.heap.size w w2 := Below.andThen B1 b2
  clear f1 hp hq lp lq
  go_wp2_with fail
  refine (works_any _).mono ?_
  rintro e w' ⟨rfl, hb⟩
  go_wp2_with fail
  go_ret
  exact ⟨rfl, Below.andThen B2 hb⟩
set_option linter.unusedSimpArgs false in
set_option maxHeartbeats 4000000 in
set_option maxRecDepth 100000 in
theorem follows_none (id P top S : Int) (a : Option Addr) (len cap : Nat) (fi fn d0 d1 d2 d3 d4 d5 d6 d7 : Int) (fr : Bool) (w : World) (h : npB id P top = true) (hl : len ≤ 300) (hS : tmB S = false) : Calls Try.prog 5 #[.int .u16 id, .int .i64 P, .int .u8 top, .int .i64 S, .slice a len cap, frV fi fn d0 d1 d2 d3 d4 d5 d6 d7 fr] w fun e w' => e = .returned (.bool true) ∧ Below w.heap.size w w' := by
  have NP := fun X => newP_ok id P top h X
  have NC := fun X => newC_ok id 0 top (by obtain ⟨h1, h2, _⟩ := npB_ok h; simp [ncB, h1, h2, tmB]) X
  obtain ⟨hi, ht, hP, hP2⟩ := npB_ok h
  have htt := tpB_le ht
  clear h ht
  have hl' : ¬ (300 : Int) < (len : Int) := by omega
  clear hi hP hP2 htt
  go_enter Try.func5, Try.ntmps5
  go_wp2_with fail
  refine (NP _).mono ?_
  rintro e w1 ⟨⟨p, rfl, lp, hp⟩, b1⟩
  have B1 : Below w.heap.size w w1 := Below.andThen (Below.al (Below.refl _ _) _) b1
  have f1 := blk11 b1 (at11 w (.cells (frC fi fn d0 d1 d2 d3 d4 d5 d6 d7 fr) 39) w.heap.size rfl)
  clear b1
  go_wp2_with fail
  refine (NC _).mono ?_
  rintro e w2 ⟨⟨q, rfl, lq, hq⟩, b2⟩
  have B2 : Below w.heap.size w w2 := Below.andThen B1 b2
  clear f1 hp hq lp lq
  have ST := fun p X => start_no p S hS X
  go_wp2_with fail
  refine (ST _ _).mono ?_
  rintro e w2 ⟨rfl, rfl⟩
  go_wp2_with fail
  refine (works_any _).mono ?_
  rintro e w' ⟨rfl, hb⟩
  go_wp2_with fail
  go_ret
  exact ⟨rfl, Below.andThen B2 hb⟩
set_option linter.unusedSimpArgs false in
set_option maxHeartbeats 4000000 in
set_option maxRecDepth 100000 in
theorem follows_good (id P top S : Int) (a : Option Addr) (len cap : Nat) (fi fn d0 d1 d2 d3 d4 d5 d6 d7 : Int) (fr : Bool) (L : List Int) (w : World) (o : IsTx w a len L) (h : npB id P top = true) (hl : len ≤ 300) (hS : tmB S = true) (ht0 : 0 ≤ top) : Calls Try.prog 5 #[.int .u16 id, .int .i64 P, .int .u8 top, .int .i64 S, .slice a len cap, frV fi fn d0 d1 d2 d3 d4 d5 d6 d7 fr] w fun e w' => e = .returned (.bool true) ∧ Below w.heap.size w w' := by
  have NP := fun X => newP_ok id P top h X
  have NC := fun X => newC_ok id 0 top (by obtain ⟨h1, h2, _⟩ := npB_ok h; simp [ncB, h1, h2, tmB]) X
  obtain ⟨hi, ht, hP, hP2⟩ := npB_ok h
  have htt := tpB_le ht
  clear h ht
  have hl' : ¬ (300 : Int) < (len : Int) := by omega
  have AR : Hid (id ≤ 2047 ∧ 0 ≤ top ∧ top ≤ 240 ∧ 1 ≤ P ∧ P ≤ 1099511627776 ∧ 0 ≤ S ∧ S ≤ 1099511627776) := ⟨hi, ht0, htt, hP, hP2, (tmB_of hS).1, (tmB_of hS).2⟩
  have ST := fun p X hp => start_ok p id top P false 0 0 S hS hP hP2 X hp
  clear hi htt hP hP2 ht0 hS
  have O : Hid (IsTx w a len L) := o
  have lsz := o.size
  clear o
  go_enter Try.func5, Try.ntmps5
  go_wp2_with fail
  refine (NP _).mono ?_
  rintro e w1 ⟨⟨p, rfl, lp, hp⟩, b1⟩
  have B1 : Below w.heap.size w w1 := Below.andThen (Below.al (Below.refl _ _) _) b1
  have f1 := blk11 b1 (at11 w (.cells (frC fi fn d0 d1 d2 d3 d4 d5 d6 d7 fr) 39) w.heap.size rfl)
  clear b1
  go_wp2_with fail
  refine (NC _).mono ?_
  rintro e w2 ⟨⟨q, rfl, lq, hq⟩, b2⟩
  have B2 : Below w.heap.size w w2 := Below.andThen B1 b2
  go_wp2_with fail
  refine (ST p _ (blk11 b2 hp)).mono ?_
  rintro e w3 ⟨rfl, hp3, k3⟩
  have npq : q ≠ p := by intro e; subst e; have := (blk11 b2 hp).symm.trans hq; simp at this
  have LP : Hid (w.heap.size < p ∧ w.heap.size < q) := ⟨by simp at lp; omega, by have := lt_of_heap f1; omega⟩
  have B3 : Below w.heap.size w w3 := Kp.below B2 k3 B2.size (by intro j hj; have := LP.out; simp at hj; omega)
  have FO : Hid (Fol w3 p q w.heap.size id P top S fi fn d0 d1 d2 d3 d4 d5 d6 d7 fr (S + P) 1 (-1) ⟨false, 0, 0, 0, 0⟩ 1) := ⟨hp3, Kp.at k3 (by simpa using npq) hq, Kp.at k3 (by have := LP.out; simp; omega) (blk11 b2 f1), ⟨Int.le_refl _, by decide⟩, fun _ => rfl, fun e => by have := AR.out.2.1; omega, Int.le_refl _, by omega, ⟨Int.le_refl _, by decide⟩, ⟨Int.le_refl _, by decide, fun h => by cases h⟩, rfl, rfl, fun h => by cases h⟩
  clear hp hq hp3 k3 b2 lp lq NP NC ST f1 B1 B2 npq
  go_wp2_with fail
  go_loopw [17, 18, 19] (fun u1 u2 u3 wr => ∃ i : Nat, i ≤ len ∧ u3 = .int .i64 i ∧ Below w.heap.size w wr ∧ ∃ due m last c k, u1 = .int .u8 m ∧ u2 = .int .i64 last ∧ Fol wr p q w.heap.size id P top S fi fn d0 d1 d2 d3 d4 d5 d6 d7 fr due m last c k) (fun _ _ u3 _ => len - (intOf u3).toNat)
  case atStart => exact ⟨0, Nat.zero_le _, rfl, B3, _, _, _, _, _, rfl, rfl, FO.out⟩
  case round =>
    clear FO B3
    obtain ⟨i, hil, rfl, B, due, m, last, c, k, rfl, rfl, FO0⟩ := hrel
    have FO : Hid (Fol wr p q w.heap.size id P top S fi fn d0 d1 d2 d3 d4 d5 d6 d7 fr due m last c k) := FO0
    clear FO0
    by_cases hlt : i < len
    rotate_left
    · have g1 : ¬ (i : Int) < (len : Int) := by omega
      have LO := lost_any q c.lo wr (by rw [cell_of_row wr _ 6 _ _ _ FO.out.hq]; rfl)
      have WO := wrong_any q c.wr wr (by rw [cell_of_row wr _ 7 _ _ _ FO.out.hq]; rfl)
      rw [FO.out.lo] at LO
      rw [FO.out.wr] at WO
      go_wp2_with fail
      refine LO.mono ?_
      rintro e wr ⟨rfl, rfl⟩
      clear LO
      go_wp2_with fail
      refine WO.mono ?_
      rintro e wr ⟨rfl, rfl⟩
      clear WO
      go_wp2_with fail
      refine (works_any _).mono ?_
      rintro e w' ⟨rfl, hb⟩
      go_wp2_with fail
      go_ret
      exact ⟨rfl, Below.andThen B hb⟩
    have g1 : (i : Int) < (len : Int) := by omega
    obtain ⟨b, off, e2, hc⟩ := (O.out.next B).at_ (by omega)
    have lb : b < w.heap.size := by
      obtain ⟨b', off', e3, hc'⟩ := O.out.at_ (by omega)
      rw [e2] at e3; cases e3
      exact block_lt_of_cell (hc' i hlt)
    have LB : Hid (b < w.heap.size) := lb
    clear lb
    subst e2
    have c0 := hc i hlt
    clear hc
    obtain ⟨t, ht⟩ : ∃ t, t = L.getD i 0 := ⟨_, rfl⟩
    rw [← ht] at c0
    clear ht
    have lbr : b < wr.heap.size := block_lt_of_cell c0
    obtain ⟨f0, f1, f2, f3, f4, f5, f6, f7, f8, f9, f10⟩ := frC_at FO.out.hb
    have lw : w.heap.size < wr.heap.size := lt_of_heap FO.out.hb
    by_cases hid : fi = id
    · have hne : (fi != id) = false := by simp [hid]
      clear hid
      by_cases hok : tmB t = true ∧ due ≤ t
      rotate_left
      · have TK : Calls Try.prog 15 #[.pointer (some ⟨p, 0, none⟩), .int .i64 t] wr (fun e w' => e = .returned (.tuple #[frV 0 0 0 0 0 0 0 0 0 0 false, .bool false]) ∧ Below wr.heap.size wr w') := by
          by_cases hx : tmB t = true
          · exact tick_early p id top P due m t hx (by by_cases hy : due ≤ t; exact absurd ⟨hx, hy⟩ hok; omega) wr FO.out.hp
          · exact tick_none p id top P due m t (by simpa using hx) wr FO.out.hp
        clear hok
        go_wp2_with fail
        refine TK.mono ?_
        rintro e w5 ⟨rfl, b5⟩
        clear TK
        have B5 : Below w.heap.size w w5 := Below.andThen B b5
        have FO5 : Hid (Fol (w5.alloc (.cells (frC 0 0 0 0 0 0 0 0 0 0 false) 39)) p q w.heap.size id P top S fi fn d0 d1 d2 d3 d4 d5 d6 d7 fr due m last c k) := (FO.out.next b5).next (Below.al (Below.refl _ _) _)
        clear FO b5 B
        go_wp2_with fail
        exact ⟨⟨i + 1, by omega, by go_num, Below.al B5 _, _, _, _, _, _, rfl, rfl, FO5.out⟩, by simp [intOf]; omega⟩
      obtain ⟨hx, hy⟩ := hok
      obtain ⟨t0, t1⟩ := tmB_of hx
      by_cases h0 : top = 0
      · have hd1 : due + ((t - due) / P + 1) * P = S + ((t - S) / P + 1) * P := by rw [FO.out.du]; exact fol_due AR.out.2.2.2.1
        subst h0
        have m1 : m = 1 := FO.out.m0 rfl
        subst m1
        have TK := tick_0 p id P due 1 t AR.out.1 hx hy AR.out.2.2.2.1 AR.out.2.2.2.2.1 (by omega) (by rw [FO.out.du]; have := Int.mul_nonneg (a := k) (b := P) (by have := FO.out.k1; omega) (by have := AR.out.2.2.2.1; omega); have := AR.out.2.2.2.2.2.1; omega) wr FO.out.hp
        rw [hd1] at TK
        clear hd1
        have HE : Hid (HearsP q id 0 0 c id 0 0 0 0 0 0 0 0 0 false t 0 true (c.hear 0 0 t)) := hears_right (d0 := 0) FO.out.co AR.out.1 (by decide) (by decide) hx (by simp [isB, sameF_self]) (by have := FO.out.lo; omega)
        have CH : c.hear 0 0 t = ⟨true, t, 0, 0, 0⟩ := by
          simp [Cst.hear, FO.out.lo, FO.out.wr]
        rw [CH] at HE
        clear CH
        have STEP : Hid (∀ w' : World, w'.heap[p]? = some (.cells (prC id 0 P true (S + ((t - S) / P + 1) * P) (nxt 0 1)) 81 (0, 0)) → w'.heap[q]? = some (.cells (csC id 0 0 true t 0 0 0) 86 (0, 0)) → w'.heap[w.heap.size]? = some (.cells (frC fi fn d0 d1 d2 d3 d4 d5 d6 d7 fr) 39 (0, 0)) → ∃ due m' last c k, m' = nxt 0 1 ∧ last = (t - S) / P ∧ Fol w' p q w.heap.size id P 0 S fi fn d0 d1 d2 d3 d4 d5 d6 d7 fr due m' last c k) := fun w' h1 h2 h3 => ⟨_, _, _, _, _, rfl, rfl, FO.out.step AR.out.2.2.2.1 AR.out.2.1 AR.out.2.2.1 hy hx h1 (by simpa using h2) h3⟩
        have qk : k ≤ (t - S) / P := fol_q AR.out.2.2.2.1 (by rw [← FO.out.du]; exact hy)
        have q1 : last < (t - S) / P := by have := FO.out.la; omega
        have q3 : S + P ≤ t := by have h1 := FO.out.du; have h2 := FO.out.k1; have h3 := AR.out.2.2.2.1; have h4 : 1 * P ≤ k * P := Int.mul_le_mul_of_nonneg_right h2 (by omega); omega
        have q4 : (t - S) / P ≤ t - S := Int.ediv_le_self _ (by have := AR.out.2.2.2.1; omega)
        have q5 : 0 ≤ (t - S) / P := by have := FO.out.k1; omega
        have W1 : IntKind.i64.wrap (S + P) = S + P := w64 _ (by have := AR.out.2.2.2; omega) (by have := AR.out.2.2.2; omega)
        have W2 : IntKind.i64.wrap (t - S) = t - S := w64 _ (by have := AR.out.2.2.2; omega) (by have := AR.out.2.2.2; omega)
        have W3 : (t - S).tdiv P = (t - S) / P := Int.tdiv_eq_ediv_of_nonneg (by have := AR.out.2.2.2; omega)
        have W4 : IntKind.i64.wrap ((t - S) / P) = (t - S) / P := w64 _ (by omega) (by have := AR.out.2.2.2; omega)
        have zP : ¬ P = 0 := by have := AR.out.2.2.2.1; omega
        have MI := FO.out.m1
        obtain ⟨npq, npb, nqb⟩ := FO.out.pq
        have hq0 := FO.out.hq
        have hb0 := FO.out.hb
        clear FO qk hx hy
        obtain ⟨Q, hQ⟩ : ∃ Q, Hid ((t - S) / P = Q) := ⟨_, rfl⟩
        rw [hQ.out] at STEP q1 q4 q5 W3 W4 TK
        clear hQ
        have q2 : ¬ t < S + P := by omega
        have q6 : ¬ Q ≤ last := by omega
        clear q1 q3 q4
        go_wp2_with fail
        refine TK.mono ?_
        rintro e w5 ⟨rfl, hp5, k5⟩
        clear TK
        have hq5 := Kp.at k5 (j := q) (by simpa using npq.symm) hq0
        have hb5 := Kp.at k5 (j := w.heap.size) (by simpa using npb.symm) hb0
        have c5 := Kp.cell k5 c0 (by have := LP.out; have := LB.out; simp; omega)
        have B5 : Below w.heap.size w w5 := Kp.below B k5 B.size (by intro j hj; have := LP.out; simp at hj; omega)
        clear k5 B hq0 hb0
        have lb5 : b < w5.heap.size := block_lt_of_cell c5
        go_wp2_with fail
        refine wp_region_held_drew (S := fun x => Below w.heap.size w x ∧ x.cell? ⟨w5.heap.size, 0, none⟩ = some (.int .u16 id) ∧ x.cell? ⟨w5.heap.size, 1, none⟩ = some (.int .i64 0) ∧ x.cell? ⟨w5.heap.size, 2, none⟩ = some (.int .u8 0) ∧ x.cell? ⟨w5.heap.size, 3, none⟩ = some (.int .u8 0) ∧ x.cell? ⟨w5.heap.size, 4, none⟩ = some (.int .u8 0) ∧ x.cell? ⟨w5.heap.size, 5, none⟩ = some (.int .u8 0) ∧ x.cell? ⟨w5.heap.size, 6, none⟩ = some (.int .u8 0) ∧ x.cell? ⟨w5.heap.size, 7, none⟩ = some (.int .u8 0) ∧ x.cell? ⟨w5.heap.size, 8, none⟩ = some (.int .u8 0) ∧ x.cell? ⟨w5.heap.size, 9, none⟩ = some (.int .u8 0) ∧ x.cell? ⟨w5.heap.size, 10, none⟩ = some (.bool false) ∧ x.cell? ⟨b, off + i, none⟩ = some (.int .i64 t)) (by kernel_rfl) (⟨Below.drew (Below.al B5 _), by simp [go_sem], by simp [go_sem], by simp [go_sem], by simp [go_sem], by simp [go_sem], by simp [go_sem], by simp [go_sem], by simp [go_sem], by simp [go_sem], by simp [go_sem], by simp [go_sem], cla11 c5⟩) (fun hHeld => ?_)
        refine tk 0 (.pointer (some ⟨q, 0, none⟩)) rfl (.inl ⟨by rfl, ?_⟩) ?_
        · intro w9 hSw
          try dsimp only at hSw
          go_simp
          all_goals try decide
          all_goals try assumption
          all_goals try omega
        try simp only [Act.put, gA, gS, gZ, sA, sZ, sS]
        refine tk 1 (frV id 0 0 0 0 0 0 0 0 0 false) rfl (.inl ⟨by rfl, ?_⟩) ?_
        · intro w9 hSw
          try dsimp only at hSw
          go_simp
          all_goals try decide
          all_goals try assumption
          all_goals try omega
        try simp only [Act.put, gA, gS, gZ, sA, sZ, sS]
        refine tk 2 (.slice (some ⟨b, off, none⟩) len cap) rfl (.inl ⟨by rfl, ?_⟩) ?_
        · intro w9 hSw
          try dsimp only at hSw
          go_simp
          all_goals try decide
          all_goals try assumption
          all_goals try omega
        try simp only [Act.put, gA, gS, gZ, sA, sZ, sS]
        refine tk 3 (.int .i64 (i : Int)) rfl (.inl ⟨by rfl, ?_⟩) ?_
        · intro w9 hSw
          try dsimp only at hSw
          go_simp
          all_goals try decide
          all_goals try assumption
          all_goals try omega
        try simp only [Act.put, gA, gS, gZ, sA, sZ, sS]
        refine tk 4 (.pointer (some ⟨b, off + i, none⟩)) rfl (.inl ⟨by rfl, ?_⟩) ?_
        · intro w9 hSw
          try dsimp only at hSw
          go_simp
          all_goals try decide
          all_goals try assumption
          all_goals try omega
        try simp only [Act.put, gA, gS, gZ, sA, sZ, sS]
        refine tk 5 (.int .i64 t) rfl (.inl ⟨by rfl, ?_⟩) ?_
        · intro w9 hSw
          try dsimp only at hSw
          go_simp
          all_goals try decide
          all_goals try assumption
          all_goals try omega
        try simp only [Act.put, gA, gS, gZ, sA, sZ, sS]
        refine wpAnyH_ready (rs := [6]) (by kernel_rfl) (by simp) ?_
        refine AllReadyH.cons rfl (fun K' hK => ?_) AllReadyH.nil
        rw [if_pos (by rfl)]
        simp only [gA, gS, gZ]
        obtain ⟨S0, S1, S2, S3, S4, S5, S6, S7, S8, S9, S10, S11, S12⟩ := hHeld
        go_wp2_with fail
        refine (HE.out _ (blk11 (Below.drew (Below.refl _ _)) (ext11 (o := .cells (frC id 0 0 0 0 0 0 0 0 0 false) 39) hq5))).mono ?_
        rintro e w6 ⟨rfl, hq6, k6⟩
        try go_wp2_with fail
        have hp6 := Kp.at k6 (j := p) (by simpa using npq) (blk11 (Below.drew (Below.refl _ _)) (ext11 (o := .cells (frC id 0 0 0 0 0 0 0 0 0 false) 39) hp5))
        have hb6 := Kp.at k6 (j := w.heap.size) (by simpa using nqb.symm) (blk11 (Below.drew (Below.refl _ _)) (ext11 (o := .cells (frC id 0 0 0 0 0 0 0 0 0 false) 39) hb5))
        refine hK.out _ _ (⟨Kp.below S0 k6 S0.size (by intro j hj; have := LP.out; simp at hj; omega), Kp.cell k6 S1 (by have := lt_of_heap hq5; have := LP.out; have := LB.out; simp; omega), Kp.cell k6 S2 (by have := lt_of_heap hq5; have := LP.out; have := LB.out; simp; omega), Kp.cell k6 S3 (by have := lt_of_heap hq5; have := LP.out; have := LB.out; simp; omega), Kp.cell k6 S4 (by have := lt_of_heap hq5; have := LP.out; have := LB.out; simp; omega), Kp.cell k6 S5 (by have := lt_of_heap hq5; have := LP.out; have := LB.out; simp; omega), Kp.cell k6 S6 (by have := lt_of_heap hq5; have := LP.out; have := LB.out; simp; omega), Kp.cell k6 S7 (by have := lt_of_heap hq5; have := LP.out; have := LB.out; simp; omega), Kp.cell k6 S8 (by have := lt_of_heap hq5; have := LP.out; have := LB.out; simp; omega), Kp.cell k6 S9 (by have := lt_of_heap hq5; have := LP.out; have := LB.out; simp; omega), Kp.cell k6 S10 (by have := lt_of_heap hq5; have := LP.out; have := LB.out; simp; omega), Kp.cell k6 S11 (by have := lt_of_heap hq5; have := LP.out; have := LB.out; simp; omega), Kp.cell k6 S12 (by have := lt_of_heap hq5; have := LP.out; have := LB.out; simp; omega)⟩) (fun hHeld => ?_)
        clear hK K'
        try simp only [Act.put, gA, gS, gZ, sA, sZ, sS]
        refine tk 7 (.tuple #[.int .u8 0, .bool true]) rfl (.inl ⟨by rfl, ?_⟩) ?_
        · intro w9 hSw
          try dsimp only at hSw
          go_simp
          all_goals try decide
          all_goals try assumption
          all_goals try omega
        try simp only [Act.put, gA, gS, gZ, sA, sZ, sS]
        refine tk 8 (.int .u8 0) rfl (.inl ⟨by rfl, ?_⟩) ?_
        · intro w9 hSw
          try dsimp only at hSw
          go_simp
          all_goals try decide
          all_goals try assumption
          all_goals try omega
        try simp only [Act.put, gA, gS, gZ, sA, sZ, sS]
        refine tk 9 (.bool true) rfl (.inl ⟨by rfl, ?_⟩) ?_
        · intro w9 hSw
          try dsimp only at hSw
          go_simp
          all_goals try decide
          all_goals try assumption
          all_goals try omega
        try simp only [Act.put, gA, gS, gZ, sA, sZ, sS]
        refine tk 10 (.int .u8 0) rfl (.inl ⟨by rfl, ?_⟩) ?_
        · intro w9 hSw
          try dsimp only at hSw
          go_simp
          all_goals try decide
          all_goals try assumption
          all_goals try omega
        try simp only [Act.put, gA, gS, gZ, sA, sZ, sS]
        refine tk 11 (.bool true) rfl (.inl ⟨by rfl, ?_⟩) ?_
        · intro w9 hSw
          try dsimp only at hSw
          go_simp
          all_goals try decide
          all_goals try assumption
          all_goals try omega
        try simp only [Act.put, gA, gS, gZ, sA, sZ, sS]
        refine wpAnyH_done (by kernel_rfl) ?_ _
        obtain ⟨T0, T1, T2, T3, T4, T5, T6, T7, T8, T9, T10, T11, T12⟩ := hHeld
        have lb6 : b < w6.heap.size := block_lt_of_cell T12
        have NEW : Hid (∃ due m' last c k, m' = nxt 0 1 ∧ last = Q ∧ Fol w6 p q w.heap.size id P 0 S fi fn d0 d1 d2 d3 d4 d5 d6 d7 fr due m' last c k) := STEP.out w6 hp6 hq6 hb6
        clear STEP hp6 hq6 hb6 k6 hp5 hq5 hb5 c5 T1 T2 T3 T4 T5 T6 T7 T8 T9 T10 T11
        obtain ⟨due', m', last', c', k', hm', hl', NF⟩ := NEW.out
        have NF : Hid (Fol w6 p q w.heap.size id P 0 S fi fn d0 d1 d2 d3 d4 d5 d6 d7 fr due' m' last' c' k') := NF
        clear NEW
        have HM : Hid (m' = nxt 0 1 ∧ last' = Q) := ⟨hm', hl'⟩
        clear hm' hl'
        by_cases hl0 : last < 0
        · go_wp2_with fail
          exact ⟨⟨i + 1, by omega, by go_num, T0, due', m', last', c', k', by rw [HM.out.1]; rfl, by rw [HM.out.2], NF.out⟩, by simp [intOf]; omega⟩
        · go_wp2_with fail
          exact ⟨⟨i + 1, by omega, by go_num, T0, due', m', last', c', k', by rw [HM.out.1]; rfl, by rw [HM.out.2], NF.out⟩, by simp [intOf]; omega⟩
      · have hd1 : due + ((t - due) / P + 1) * P = S + ((t - S) / P + 1) * P := by rw [FO.out.du]; exact fol_due AR.out.2.2.2.1
        have TK := tick_1 p id top P due m t h0 (by have := AR.out.2.2.1; omega) AR.out.1 hx hy AR.out.2.2.2.1 AR.out.2.2.2.2.1 (by have := FO.out.m1; omega) (by rw [FO.out.du]; have := Int.mul_nonneg (a := k) (b := P) (by have := FO.out.k1; omega) (by have := AR.out.2.2.2.1; omega); have := AR.out.2.2.2.2.2.1; omega) wr FO.out.hp
        rw [hd1] at TK
        clear hd1
        have HE : Hid (HearsP q id top 0 c id 1 m 0 0 0 0 0 0 0 false t m true (c.hear top m t)) := by have := hears_right (p := q) (id := id) (W := 0) (n := 1) (d0 := m) (d1 := 0) (d2 := 0) (d3 := 0) (d4 := 0) (d5 := 0) (d6 := 0) (d7 := 0) (now := t) FO.out.co AR.out.1 AR.out.2.2.1 (by have := FO.out.m1; omega) hx (by have := FO.out.m1; have := FO.out.mt h0; simp [isB, h0, sameF_self]; omega) (by have := FO.out.lo; omega); rw [if_neg h0] at this; exact this
        have CH : c.hear top m t = ⟨true, t, m, 0, 0⟩ := by
          have g0 : c.hd = true → gap top c.n m = 0 := fun e => gap_zero (FO.out.fo e h0)
          by_cases e : c.hd = true
          · simp [Cst.hear, h0, e, g0 e, FO.out.lo, FO.out.wr]
          · simp [Cst.hear, h0, e, FO.out.lo, FO.out.wr]
        rw [CH] at HE
        clear CH
        have STEP : Hid (∀ w' : World, w'.heap[p]? = some (.cells (prC id top P true (S + ((t - S) / P + 1) * P) (nxt top m)) 81 (0, 0)) → w'.heap[q]? = some (.cells (csC id top 0 true t m 0 0) 86 (0, 0)) → w'.heap[w.heap.size]? = some (.cells (frC fi fn d0 d1 d2 d3 d4 d5 d6 d7 fr) 39 (0, 0)) → ∃ due m' last c k, m' = nxt top m ∧ last = (t - S) / P ∧ Fol w' p q w.heap.size id P top S fi fn d0 d1 d2 d3 d4 d5 d6 d7 fr due m' last c k) := fun w' h1 h2 h3 => ⟨_, _, _, _, _, rfl, rfl, FO.out.step AR.out.2.2.2.1 AR.out.2.1 AR.out.2.2.1 hy hx h1 (by rw [if_neg h0]; exact h2) h3⟩
        have qk : k ≤ (t - S) / P := fol_q AR.out.2.2.2.1 (by rw [← FO.out.du]; exact hy)
        have q1 : last < (t - S) / P := by have := FO.out.la; omega
        have q3 : S + P ≤ t := by have h1 := FO.out.du; have h2 := FO.out.k1; have h3 := AR.out.2.2.2.1; have h4 : 1 * P ≤ k * P := Int.mul_le_mul_of_nonneg_right h2 (by omega); omega
        have q4 : (t - S) / P ≤ t - S := Int.ediv_le_self _ (by have := AR.out.2.2.2.1; omega)
        have q5 : 0 ≤ (t - S) / P := by have := FO.out.k1; omega
        have W1 : IntKind.i64.wrap (S + P) = S + P := w64 _ (by have := AR.out.2.2.2; omega) (by have := AR.out.2.2.2; omega)
        have W2 : IntKind.i64.wrap (t - S) = t - S := w64 _ (by have := AR.out.2.2.2; omega) (by have := AR.out.2.2.2; omega)
        have W3 : (t - S).tdiv P = (t - S) / P := Int.tdiv_eq_ediv_of_nonneg (by have := AR.out.2.2.2; omega)
        have W4 : IntKind.i64.wrap ((t - S) / P) = (t - S) / P := w64 _ (by omega) (by have := AR.out.2.2.2; omega)
        have zP : ¬ P = 0 := by have := AR.out.2.2.2.1; omega
        have MI := FO.out.m1
        obtain ⟨npq, npb, nqb⟩ := FO.out.pq
        have hq0 := FO.out.hq
        have hb0 := FO.out.hb
        clear FO qk hx hy
        obtain ⟨Q, hQ⟩ : ∃ Q, Hid ((t - S) / P = Q) := ⟨_, rfl⟩
        rw [hQ.out] at STEP q1 q4 q5 W3 W4 TK
        clear hQ
        have q2 : ¬ t < S + P := by omega
        have q6 : ¬ Q ≤ last := by omega
        clear q1 q3 q4
        go_wp2_with fail
        refine TK.mono ?_
        rintro e w5 ⟨rfl, hp5, k5⟩
        clear TK
        have hq5 := Kp.at k5 (j := q) (by simpa using npq.symm) hq0
        have hb5 := Kp.at k5 (j := w.heap.size) (by simpa using npb.symm) hb0
        have c5 := Kp.cell k5 c0 (by have := LP.out; have := LB.out; simp; omega)
        have B5 : Below w.heap.size w w5 := Kp.below B k5 B.size (by intro j hj; have := LP.out; simp at hj; omega)
        clear k5 B hq0 hb0
        have lb5 : b < w5.heap.size := block_lt_of_cell c5
        go_wp2_with fail
        refine wp_region_held_drew (S := fun x => Below w.heap.size w x ∧ x.cell? ⟨w5.heap.size, 0, none⟩ = some (.int .u16 id) ∧ x.cell? ⟨w5.heap.size, 1, none⟩ = some (.int .i64 1) ∧ x.cell? ⟨w5.heap.size, 2, none⟩ = some (.int .u8 m) ∧ x.cell? ⟨w5.heap.size, 3, none⟩ = some (.int .u8 0) ∧ x.cell? ⟨w5.heap.size, 4, none⟩ = some (.int .u8 0) ∧ x.cell? ⟨w5.heap.size, 5, none⟩ = some (.int .u8 0) ∧ x.cell? ⟨w5.heap.size, 6, none⟩ = some (.int .u8 0) ∧ x.cell? ⟨w5.heap.size, 7, none⟩ = some (.int .u8 0) ∧ x.cell? ⟨w5.heap.size, 8, none⟩ = some (.int .u8 0) ∧ x.cell? ⟨w5.heap.size, 9, none⟩ = some (.int .u8 0) ∧ x.cell? ⟨w5.heap.size, 10, none⟩ = some (.bool false) ∧ x.cell? ⟨b, off + i, none⟩ = some (.int .i64 t)) (by kernel_rfl) (⟨Below.drew (Below.al B5 _), by simp [go_sem], by simp [go_sem], by simp [go_sem], by simp [go_sem], by simp [go_sem], by simp [go_sem], by simp [go_sem], by simp [go_sem], by simp [go_sem], by simp [go_sem], by simp [go_sem], cla11 c5⟩) (fun hHeld => ?_)
        refine tk 0 (.pointer (some ⟨q, 0, none⟩)) rfl (.inl ⟨by rfl, ?_⟩) ?_
        · intro w9 hSw
          try dsimp only at hSw
          go_simp
          all_goals try decide
          all_goals try assumption
          all_goals try omega
        try simp only [Act.put, gA, gS, gZ, sA, sZ, sS]
        refine tk 1 (frV id 1 m 0 0 0 0 0 0 0 false) rfl (.inl ⟨by rfl, ?_⟩) ?_
        · intro w9 hSw
          try dsimp only at hSw
          go_simp
          all_goals try decide
          all_goals try assumption
          all_goals try omega
        try simp only [Act.put, gA, gS, gZ, sA, sZ, sS]
        refine tk 2 (.slice (some ⟨b, off, none⟩) len cap) rfl (.inl ⟨by rfl, ?_⟩) ?_
        · intro w9 hSw
          try dsimp only at hSw
          go_simp
          all_goals try decide
          all_goals try assumption
          all_goals try omega
        try simp only [Act.put, gA, gS, gZ, sA, sZ, sS]
        refine tk 3 (.int .i64 (i : Int)) rfl (.inl ⟨by rfl, ?_⟩) ?_
        · intro w9 hSw
          try dsimp only at hSw
          go_simp
          all_goals try decide
          all_goals try assumption
          all_goals try omega
        try simp only [Act.put, gA, gS, gZ, sA, sZ, sS]
        refine tk 4 (.pointer (some ⟨b, off + i, none⟩)) rfl (.inl ⟨by rfl, ?_⟩) ?_
        · intro w9 hSw
          try dsimp only at hSw
          go_simp
          all_goals try decide
          all_goals try assumption
          all_goals try omega
        try simp only [Act.put, gA, gS, gZ, sA, sZ, sS]
        refine tk 5 (.int .i64 t) rfl (.inl ⟨by rfl, ?_⟩) ?_
        · intro w9 hSw
          try dsimp only at hSw
          go_simp
          all_goals try decide
          all_goals try assumption
          all_goals try omega
        try simp only [Act.put, gA, gS, gZ, sA, sZ, sS]
        refine wpAnyH_ready (rs := [6]) (by kernel_rfl) (by simp) ?_
        refine AllReadyH.cons rfl (fun K' hK => ?_) AllReadyH.nil
        rw [if_pos (by rfl)]
        simp only [gA, gS, gZ]
        obtain ⟨S0, S1, S2, S3, S4, S5, S6, S7, S8, S9, S10, S11, S12⟩ := hHeld
        go_wp2_with fail
        refine (HE.out _ (blk11 (Below.drew (Below.refl _ _)) (ext11 (o := .cells (frC id 1 m 0 0 0 0 0 0 0 false) 39) hq5))).mono ?_
        rintro e w6 ⟨rfl, hq6, k6⟩
        try go_wp2_with fail
        have hp6 := Kp.at k6 (j := p) (by simpa using npq) (blk11 (Below.drew (Below.refl _ _)) (ext11 (o := .cells (frC id 1 m 0 0 0 0 0 0 0 false) 39) hp5))
        have hb6 := Kp.at k6 (j := w.heap.size) (by simpa using nqb.symm) (blk11 (Below.drew (Below.refl _ _)) (ext11 (o := .cells (frC id 1 m 0 0 0 0 0 0 0 false) 39) hb5))
        refine hK.out _ _ (⟨Kp.below S0 k6 S0.size (by intro j hj; have := LP.out; simp at hj; omega), Kp.cell k6 S1 (by have := lt_of_heap hq5; have := LP.out; have := LB.out; simp; omega), Kp.cell k6 S2 (by have := lt_of_heap hq5; have := LP.out; have := LB.out; simp; omega), Kp.cell k6 S3 (by have := lt_of_heap hq5; have := LP.out; have := LB.out; simp; omega), Kp.cell k6 S4 (by have := lt_of_heap hq5; have := LP.out; have := LB.out; simp; omega), Kp.cell k6 S5 (by have := lt_of_heap hq5; have := LP.out; have := LB.out; simp; omega), Kp.cell k6 S6 (by have := lt_of_heap hq5; have := LP.out; have := LB.out; simp; omega), Kp.cell k6 S7 (by have := lt_of_heap hq5; have := LP.out; have := LB.out; simp; omega), Kp.cell k6 S8 (by have := lt_of_heap hq5; have := LP.out; have := LB.out; simp; omega), Kp.cell k6 S9 (by have := lt_of_heap hq5; have := LP.out; have := LB.out; simp; omega), Kp.cell k6 S10 (by have := lt_of_heap hq5; have := LP.out; have := LB.out; simp; omega), Kp.cell k6 S11 (by have := lt_of_heap hq5; have := LP.out; have := LB.out; simp; omega), Kp.cell k6 S12 (by have := lt_of_heap hq5; have := LP.out; have := LB.out; simp; omega)⟩) (fun hHeld => ?_)
        clear hK K'
        try simp only [Act.put, gA, gS, gZ, sA, sZ, sS]
        refine tk 7 (.tuple #[.int .u8 m, .bool true]) rfl (.inl ⟨by rfl, ?_⟩) ?_
        · intro w9 hSw
          try dsimp only at hSw
          go_simp
          all_goals try decide
          all_goals try assumption
          all_goals try omega
        try simp only [Act.put, gA, gS, gZ, sA, sZ, sS]
        refine tk 8 (.int .u8 m) rfl (.inl ⟨by rfl, ?_⟩) ?_
        · intro w9 hSw
          try dsimp only at hSw
          go_simp
          all_goals try decide
          all_goals try assumption
          all_goals try omega
        try simp only [Act.put, gA, gS, gZ, sA, sZ, sS]
        refine tk 9 (.bool true) rfl (.inl ⟨by rfl, ?_⟩) ?_
        · intro w9 hSw
          try dsimp only at hSw
          go_simp
          all_goals try decide
          all_goals try assumption
          all_goals try omega
        try simp only [Act.put, gA, gS, gZ, sA, sZ, sS]
        refine tk 10 (.int .u8 m) rfl (.inl ⟨by rfl, ?_⟩) ?_
        · intro w9 hSw
          try dsimp only at hSw
          go_simp
          all_goals try decide
          all_goals try assumption
          all_goals try omega
        try simp only [Act.put, gA, gS, gZ, sA, sZ, sS]
        refine tk 11 (.bool true) rfl (.inl ⟨by rfl, ?_⟩) ?_
        · intro w9 hSw
          try dsimp only at hSw
          go_simp
          all_goals try decide
          all_goals try assumption
          all_goals try omega
        try simp only [Act.put, gA, gS, gZ, sA, sZ, sS]
        refine wpAnyH_done (by kernel_rfl) ?_ _
        obtain ⟨T0, T1, T2, T3, T4, T5, T6, T7, T8, T9, T10, T11, T12⟩ := hHeld
        have lb6 : b < w6.heap.size := block_lt_of_cell T12
        have NEW : Hid (∃ due m' last c k, m' = nxt top m ∧ last = Q ∧ Fol w6 p q w.heap.size id P top S fi fn d0 d1 d2 d3 d4 d5 d6 d7 fr due m' last c k) := STEP.out w6 hp6 hq6 hb6
        clear STEP hp6 hq6 hb6 k6 hp5 hq5 hb5 c5 T1 T2 T3 T4 T5 T6 T7 T8 T9 T10 T11
        obtain ⟨due', m', last', c', k', hm', hl', NF⟩ := NEW.out
        have NF : Hid (Fol w6 p q w.heap.size id P top S fi fn d0 d1 d2 d3 d4 d5 d6 d7 fr due' m' last' c' k') := NF
        clear NEW
        have HM : Hid (m' = nxt top m ∧ last' = Q) := ⟨hm', hl'⟩
        clear hm' hl'
        have tp0 : 0 < top := by have := AR.out.2.1; omega
        by_cases hl0 : last < 0
        · by_cases hwr : top < m + 1
          · go_wp2_with fail
            exact ⟨⟨i + 1, by omega, by go_num, T0, due', m', last', c', k', by rw [HM.out.1]; unfold nxt; rw [if_pos (by omega)], by rw [HM.out.2], NF.out⟩, by simp [intOf]; omega⟩
          · go_wp2_with fail
            exact ⟨⟨i + 1, by omega, by go_num, T0, due', m', last', c', k', by rw [HM.out.1]; unfold nxt; rw [if_neg (by omega)], by rw [HM.out.2], NF.out⟩, by simp [intOf]; omega⟩
        · by_cases hwr : top < m + 1
          · go_wp2_with fail
            exact ⟨⟨i + 1, by omega, by go_num, T0, due', m', last', c', k', by rw [HM.out.1]; unfold nxt; rw [if_pos (by omega)], by rw [HM.out.2], NF.out⟩, by simp [intOf]; omega⟩
          · go_wp2_with fail
            exact ⟨⟨i + 1, by omega, by go_num, T0, due', m', last', c', k', by rw [HM.out.1]; unfold nxt; rw [if_neg (by omega)], by rw [HM.out.2], NF.out⟩, by simp [intOf]; omega⟩
    · have HS : Hid (HearsP q id top 0 c fi fn d0 d1 d2 d3 d4 d5 d6 d7 fr t 0 false c) := hears_skip (.inl hid)
      go_wp2_with fail
      refine wp_region_held_drew (S := fun x => Below w.heap.size w x ∧ x.cell? ⟨w.heap.size, 0, none⟩ = some (.int .u16 fi) ∧ x.cell? ⟨w.heap.size, 1, none⟩ = some (.int .i64 fn) ∧ x.cell? ⟨w.heap.size, 2, none⟩ = some (.int .u8 d0) ∧ x.cell? ⟨w.heap.size, 3, none⟩ = some (.int .u8 d1) ∧ x.cell? ⟨w.heap.size, 4, none⟩ = some (.int .u8 d2) ∧ x.cell? ⟨w.heap.size, 5, none⟩ = some (.int .u8 d3) ∧ x.cell? ⟨w.heap.size, 6, none⟩ = some (.int .u8 d4) ∧ x.cell? ⟨w.heap.size, 7, none⟩ = some (.int .u8 d5) ∧ x.cell? ⟨w.heap.size, 8, none⟩ = some (.int .u8 d6) ∧ x.cell? ⟨w.heap.size, 9, none⟩ = some (.int .u8 d7) ∧ x.cell? ⟨w.heap.size, 10, none⟩ = some (.bool fr) ∧ x.cell? ⟨b, off + i, none⟩ = some (.int .i64 t)) (by kernel_rfl) (⟨Below.drew B, f0, f1, f2, f3, f4, f5, f6, f7, f8, f9, f10, c0⟩) (fun hHeld => ?_)
      refine tk 0 (.pointer (some ⟨q, 0, none⟩)) rfl (.inl ⟨by rfl, ?_⟩) ?_
      · intro w9 hSw
        try dsimp only at hSw
        go_simp
        all_goals try decide
        all_goals try assumption
        all_goals try omega
      try simp only [Act.put, gA, gS, gZ, sA, sZ, sS]
      refine tk 1 (frV fi fn d0 d1 d2 d3 d4 d5 d6 d7 fr) rfl (.inl ⟨by rfl, ?_⟩) ?_
      · intro w9 hSw
        try dsimp only at hSw
        go_simp
        all_goals try decide
        all_goals try assumption
        all_goals try omega
      try simp only [Act.put, gA, gS, gZ, sA, sZ, sS]
      refine tk 2 (.slice (some ⟨b, off, none⟩) len cap) rfl (.inl ⟨by rfl, ?_⟩) ?_
      · intro w9 hSw
        try dsimp only at hSw
        go_simp
        all_goals try decide
        all_goals try assumption
        all_goals try omega
      try simp only [Act.put, gA, gS, gZ, sA, sZ, sS]
      refine tk 3 (.int .i64 (i : Int)) rfl (.inl ⟨by rfl, ?_⟩) ?_
      · intro w9 hSw
        try dsimp only at hSw
        go_simp
        all_goals try decide
        all_goals try assumption
        all_goals try omega
      try simp only [Act.put, gA, gS, gZ, sA, sZ, sS]
      refine tk 4 (.pointer (some ⟨b, off + i, none⟩)) rfl (.inl ⟨by rfl, ?_⟩) ?_
      · intro w9 hSw
        try dsimp only at hSw
        go_simp
        all_goals try decide
        all_goals try assumption
        all_goals try omega
      try simp only [Act.put, gA, gS, gZ, sA, sZ, sS]
      refine tk 5 (.int .i64 t) rfl (.inl ⟨by rfl, ?_⟩) ?_
      · intro w9 hSw
        try dsimp only at hSw
        go_simp
        all_goals try decide
        all_goals try assumption
        all_goals try omega
      try simp only [Act.put, gA, gS, gZ, sA, sZ, sS]
      refine wpAnyH_ready (rs := [6]) (by kernel_rfl) (by simp) ?_
      refine AllReadyH.cons rfl (fun K' hK => ?_) AllReadyH.nil
      rw [if_pos (by rfl)]
      simp only [gA, gS, gZ]
      obtain ⟨S0, S1, S2, S3, S4, S5, S6, S7, S8, S9, S10, S11, S12⟩ := hHeld
      go_wp2_with fail
      refine (HS.out _ (FO.out.next (Below.drew (Below.refl _ _))).hq).mono ?_
      rintro e w4 ⟨rfl, hq4, k4⟩
      try go_wp2_with fail
      refine hK.out _ _ (⟨Kp.below S0 k4 S0.size (by intro j hj; have := LP.out; simp at hj; omega), Kp.cell k4 S1 (by have := LP.out; have := LB.out; simp; omega), Kp.cell k4 S2 (by have := LP.out; have := LB.out; simp; omega), Kp.cell k4 S3 (by have := LP.out; have := LB.out; simp; omega), Kp.cell k4 S4 (by have := LP.out; have := LB.out; simp; omega), Kp.cell k4 S5 (by have := LP.out; have := LB.out; simp; omega), Kp.cell k4 S6 (by have := LP.out; have := LB.out; simp; omega), Kp.cell k4 S7 (by have := LP.out; have := LB.out; simp; omega), Kp.cell k4 S8 (by have := LP.out; have := LB.out; simp; omega), Kp.cell k4 S9 (by have := LP.out; have := LB.out; simp; omega), Kp.cell k4 S10 (by have := LP.out; have := LB.out; simp; omega), Kp.cell k4 S11 (by have := LP.out; have := LB.out; simp; omega), Kp.cell k4 S12 (by have := LP.out; have := LB.out; simp; omega)⟩) (fun hHeld => ?_)
      clear hK K'
      try simp only [Act.put, gA, gS, gZ, sA, sZ, sS]
      refine tk 7 (.tuple #[.int .u8 0, .bool false]) rfl (.inl ⟨by rfl, ?_⟩) ?_
      · intro w9 hSw
        try dsimp only at hSw
        go_simp
        all_goals try decide
        all_goals try assumption
        all_goals try omega
      try simp only [Act.put, gA, gS, gZ, sA, sZ, sS]
      refine tk 8 (.int .u8 0) rfl (.inl ⟨by rfl, ?_⟩) ?_
      · intro w9 hSw
        try dsimp only at hSw
        go_simp
        all_goals try decide
        all_goals try assumption
        all_goals try omega
      try simp only [Act.put, gA, gS, gZ, sA, sZ, sS]
      refine tk 9 (.bool false) rfl (.inl ⟨by rfl, ?_⟩) ?_
      · intro w9 hSw
        try dsimp only at hSw
        go_simp
        all_goals try decide
        all_goals try assumption
        all_goals try omega
      try simp only [Act.put, gA, gS, gZ, sA, sZ, sS]
      refine tk 10 (.int .u8 0) rfl (.inl ⟨by rfl, ?_⟩) ?_
      · intro w9 hSw
        try dsimp only at hSw
        go_simp
        all_goals try decide
        all_goals try assumption
        all_goals try omega
      try simp only [Act.put, gA, gS, gZ, sA, sZ, sS]
      refine tk 11 (.bool false) rfl (.inl ⟨by rfl, ?_⟩) ?_
      · intro w9 hSw
        try dsimp only at hSw
        go_simp
        all_goals try decide
        all_goals try assumption
        all_goals try omega
      try simp only [Act.put, gA, gS, gZ, sA, sZ, sS]
      refine wpAnyH_done (by kernel_rfl) ?_ _
      obtain ⟨T0, T1, T2, T3, T4, T5, T6, T7, T8, T9, T10, T11, T12⟩ := hHeld
      have lb4 : b < w4.heap.size := block_lt_of_cell T12
      have F4 : Hid (Fol w4 p q w.heap.size id P top S fi fn d0 d1 d2 d3 d4 d5 d6 d7 fr due m last c k) := FO.out.same (by rw [FO.out.hp]; exact Kp.at k4 (by have := FO.out.pq; simpa using this.1) (FO.out.next (Below.drew (Below.refl _ _))).hp) (by rw [FO.out.hq]; exact hq4) (by rw [FO.out.hb]; exact Kp.at k4 (by have := FO.out.pq; simpa using this.2.2.symm) (FO.out.next (Below.drew (Below.refl _ _))).hb)
      clear FO B c0 k4 hq4 HS f0 f1 f2 f3 f4 f5 f6 f7 f8 f9 f10 lw T1 T2 T3 T4 T5 T6 T7 T8 T9 T10 T11
      have FO := F4
      have B := T0
      have c0 := T12
      clear F4 T0 T12
      by_cases hok : tmB t = true ∧ due ≤ t
      rotate_left
      · have TK : Calls Try.prog 15 #[.pointer (some ⟨p, 0, none⟩), .int .i64 t] w4 (fun e w' => e = .returned (.tuple #[frV 0 0 0 0 0 0 0 0 0 0 false, .bool false]) ∧ Below w4.heap.size w4 w') := by
          by_cases hx : tmB t = true
          · exact tick_early p id top P due m t hx (by by_cases hy : due ≤ t; exact absurd ⟨hx, hy⟩ hok; omega) w4 FO.out.hp
          · exact tick_none p id top P due m t (by simpa using hx) w4 FO.out.hp
        clear hok
        go_wp2_with fail
        refine TK.mono ?_
        rintro e w5 ⟨rfl, b5⟩
        clear TK
        have B5 : Below w.heap.size w w5 := Below.andThen B b5
        have FO5 : Hid (Fol (w5.alloc (.cells (frC 0 0 0 0 0 0 0 0 0 0 false) 39)) p q w.heap.size id P top S fi fn d0 d1 d2 d3 d4 d5 d6 d7 fr due m last c k) := (FO.out.next b5).next (Below.al (Below.refl _ _) _)
        clear FO b5 B
        go_wp2_with fail
        exact ⟨⟨i + 1, by omega, by go_num, Below.al B5 _, _, _, _, _, _, rfl, rfl, FO5.out⟩, by simp [intOf]; omega⟩
      obtain ⟨hx, hy⟩ := hok
      obtain ⟨t0, t1⟩ := tmB_of hx
      by_cases h0 : top = 0
      · have hd1 : due + ((t - due) / P + 1) * P = S + ((t - S) / P + 1) * P := by rw [FO.out.du]; exact fol_due AR.out.2.2.2.1
        subst h0
        have m1 : m = 1 := FO.out.m0 rfl
        subst m1
        have TK := tick_0 p id P due 1 t AR.out.1 hx hy AR.out.2.2.2.1 AR.out.2.2.2.2.1 (by omega) (by rw [FO.out.du]; have := Int.mul_nonneg (a := k) (b := P) (by have := FO.out.k1; omega) (by have := AR.out.2.2.2.1; omega); have := AR.out.2.2.2.2.2.1; omega) w4 FO.out.hp
        rw [hd1] at TK
        clear hd1
        have HE : Hid (HearsP q id 0 0 c id 0 0 0 0 0 0 0 0 0 false t 0 true (c.hear 0 0 t)) := hears_right (d0 := 0) FO.out.co AR.out.1 (by decide) (by decide) hx (by simp [isB, sameF_self]) (by have := FO.out.lo; omega)
        have CH : c.hear 0 0 t = ⟨true, t, 0, 0, 0⟩ := by
          simp [Cst.hear, FO.out.lo, FO.out.wr]
        rw [CH] at HE
        clear CH
        have STEP : Hid (∀ w' : World, w'.heap[p]? = some (.cells (prC id 0 P true (S + ((t - S) / P + 1) * P) (nxt 0 1)) 81 (0, 0)) → w'.heap[q]? = some (.cells (csC id 0 0 true t 0 0 0) 86 (0, 0)) → w'.heap[w.heap.size]? = some (.cells (frC fi fn d0 d1 d2 d3 d4 d5 d6 d7 fr) 39 (0, 0)) → ∃ due m' last c k, m' = nxt 0 1 ∧ last = (t - S) / P ∧ Fol w' p q w.heap.size id P 0 S fi fn d0 d1 d2 d3 d4 d5 d6 d7 fr due m' last c k) := fun w' h1 h2 h3 => ⟨_, _, _, _, _, rfl, rfl, FO.out.step AR.out.2.2.2.1 AR.out.2.1 AR.out.2.2.1 hy hx h1 (by simpa using h2) h3⟩
        have qk : k ≤ (t - S) / P := fol_q AR.out.2.2.2.1 (by rw [← FO.out.du]; exact hy)
        have q1 : last < (t - S) / P := by have := FO.out.la; omega
        have q3 : S + P ≤ t := by have h1 := FO.out.du; have h2 := FO.out.k1; have h3 := AR.out.2.2.2.1; have h4 : 1 * P ≤ k * P := Int.mul_le_mul_of_nonneg_right h2 (by omega); omega
        have q4 : (t - S) / P ≤ t - S := Int.ediv_le_self _ (by have := AR.out.2.2.2.1; omega)
        have q5 : 0 ≤ (t - S) / P := by have := FO.out.k1; omega
        have W1 : IntKind.i64.wrap (S + P) = S + P := w64 _ (by have := AR.out.2.2.2; omega) (by have := AR.out.2.2.2; omega)
        have W2 : IntKind.i64.wrap (t - S) = t - S := w64 _ (by have := AR.out.2.2.2; omega) (by have := AR.out.2.2.2; omega)
        have W3 : (t - S).tdiv P = (t - S) / P := Int.tdiv_eq_ediv_of_nonneg (by have := AR.out.2.2.2; omega)
        have W4 : IntKind.i64.wrap ((t - S) / P) = (t - S) / P := w64 _ (by omega) (by have := AR.out.2.2.2; omega)
        have zP : ¬ P = 0 := by have := AR.out.2.2.2.1; omega
        have MI := FO.out.m1
        obtain ⟨npq, npb, nqb⟩ := FO.out.pq
        have hq0 := FO.out.hq
        have hb0 := FO.out.hb
        clear FO qk hx hy
        obtain ⟨Q, hQ⟩ : ∃ Q, Hid ((t - S) / P = Q) := ⟨_, rfl⟩
        rw [hQ.out] at STEP q1 q4 q5 W3 W4 TK
        clear hQ
        have q2 : ¬ t < S + P := by omega
        have q6 : ¬ Q ≤ last := by omega
        clear q1 q3 q4
        go_wp2_with fail
        refine TK.mono ?_
        rintro e w5 ⟨rfl, hp5, k5⟩
        clear TK
        have hq5 := Kp.at k5 (j := q) (by simpa using npq.symm) hq0
        have hb5 := Kp.at k5 (j := w.heap.size) (by simpa using npb.symm) hb0
        have c5 := Kp.cell k5 c0 (by have := LP.out; have := LB.out; simp; omega)
        have B5 : Below w.heap.size w w5 := Kp.below B k5 B.size (by intro j hj; have := LP.out; simp at hj; omega)
        clear k5 B hq0 hb0
        have lb5 : b < w5.heap.size := block_lt_of_cell c5
        go_wp2_with fail
        refine wp_region_held_drew (S := fun x => Below w.heap.size w x ∧ x.cell? ⟨w5.heap.size, 0, none⟩ = some (.int .u16 id) ∧ x.cell? ⟨w5.heap.size, 1, none⟩ = some (.int .i64 0) ∧ x.cell? ⟨w5.heap.size, 2, none⟩ = some (.int .u8 0) ∧ x.cell? ⟨w5.heap.size, 3, none⟩ = some (.int .u8 0) ∧ x.cell? ⟨w5.heap.size, 4, none⟩ = some (.int .u8 0) ∧ x.cell? ⟨w5.heap.size, 5, none⟩ = some (.int .u8 0) ∧ x.cell? ⟨w5.heap.size, 6, none⟩ = some (.int .u8 0) ∧ x.cell? ⟨w5.heap.size, 7, none⟩ = some (.int .u8 0) ∧ x.cell? ⟨w5.heap.size, 8, none⟩ = some (.int .u8 0) ∧ x.cell? ⟨w5.heap.size, 9, none⟩ = some (.int .u8 0) ∧ x.cell? ⟨w5.heap.size, 10, none⟩ = some (.bool false) ∧ x.cell? ⟨b, off + i, none⟩ = some (.int .i64 t)) (by kernel_rfl) (⟨Below.drew (Below.al B5 _), by simp [go_sem], by simp [go_sem], by simp [go_sem], by simp [go_sem], by simp [go_sem], by simp [go_sem], by simp [go_sem], by simp [go_sem], by simp [go_sem], by simp [go_sem], by simp [go_sem], cla11 c5⟩) (fun hHeld => ?_)
        refine tk 0 (.pointer (some ⟨q, 0, none⟩)) rfl (.inl ⟨by rfl, ?_⟩) ?_
        · intro w9 hSw
          try dsimp only at hSw
          go_simp
          all_goals try decide
          all_goals try assumption
          all_goals try omega
        try simp only [Act.put, gA, gS, gZ, sA, sZ, sS]
        refine tk 1 (frV id 0 0 0 0 0 0 0 0 0 false) rfl (.inl ⟨by rfl, ?_⟩) ?_
        · intro w9 hSw
          try dsimp only at hSw
          go_simp
          all_goals try decide
          all_goals try assumption
          all_goals try omega
        try simp only [Act.put, gA, gS, gZ, sA, sZ, sS]
        refine tk 2 (.slice (some ⟨b, off, none⟩) len cap) rfl (.inl ⟨by rfl, ?_⟩) ?_
        · intro w9 hSw
          try dsimp only at hSw
          go_simp
          all_goals try decide
          all_goals try assumption
          all_goals try omega
        try simp only [Act.put, gA, gS, gZ, sA, sZ, sS]
        refine tk 3 (.int .i64 (i : Int)) rfl (.inl ⟨by rfl, ?_⟩) ?_
        · intro w9 hSw
          try dsimp only at hSw
          go_simp
          all_goals try decide
          all_goals try assumption
          all_goals try omega
        try simp only [Act.put, gA, gS, gZ, sA, sZ, sS]
        refine tk 4 (.pointer (some ⟨b, off + i, none⟩)) rfl (.inl ⟨by rfl, ?_⟩) ?_
        · intro w9 hSw
          try dsimp only at hSw
          go_simp
          all_goals try decide
          all_goals try assumption
          all_goals try omega
        try simp only [Act.put, gA, gS, gZ, sA, sZ, sS]
        refine tk 5 (.int .i64 t) rfl (.inl ⟨by rfl, ?_⟩) ?_
        · intro w9 hSw
          try dsimp only at hSw
          go_simp
          all_goals try decide
          all_goals try assumption
          all_goals try omega
        try simp only [Act.put, gA, gS, gZ, sA, sZ, sS]
        refine wpAnyH_ready (rs := [6]) (by kernel_rfl) (by simp) ?_
        refine AllReadyH.cons rfl (fun K' hK => ?_) AllReadyH.nil
        rw [if_pos (by rfl)]
        simp only [gA, gS, gZ]
        obtain ⟨S0, S1, S2, S3, S4, S5, S6, S7, S8, S9, S10, S11, S12⟩ := hHeld
        go_wp2_with fail
        refine (HE.out _ (blk11 (Below.drew (Below.refl _ _)) (ext11 (o := .cells (frC id 0 0 0 0 0 0 0 0 0 false) 39) hq5))).mono ?_
        rintro e w6 ⟨rfl, hq6, k6⟩
        try go_wp2_with fail
        have hp6 := Kp.at k6 (j := p) (by simpa using npq) (blk11 (Below.drew (Below.refl _ _)) (ext11 (o := .cells (frC id 0 0 0 0 0 0 0 0 0 false) 39) hp5))
        have hb6 := Kp.at k6 (j := w.heap.size) (by simpa using nqb.symm) (blk11 (Below.drew (Below.refl _ _)) (ext11 (o := .cells (frC id 0 0 0 0 0 0 0 0 0 false) 39) hb5))
        refine hK.out _ _ (⟨Kp.below S0 k6 S0.size (by intro j hj; have := LP.out; simp at hj; omega), Kp.cell k6 S1 (by have := lt_of_heap hq5; have := LP.out; have := LB.out; simp; omega), Kp.cell k6 S2 (by have := lt_of_heap hq5; have := LP.out; have := LB.out; simp; omega), Kp.cell k6 S3 (by have := lt_of_heap hq5; have := LP.out; have := LB.out; simp; omega), Kp.cell k6 S4 (by have := lt_of_heap hq5; have := LP.out; have := LB.out; simp; omega), Kp.cell k6 S5 (by have := lt_of_heap hq5; have := LP.out; have := LB.out; simp; omega), Kp.cell k6 S6 (by have := lt_of_heap hq5; have := LP.out; have := LB.out; simp; omega), Kp.cell k6 S7 (by have := lt_of_heap hq5; have := LP.out; have := LB.out; simp; omega), Kp.cell k6 S8 (by have := lt_of_heap hq5; have := LP.out; have := LB.out; simp; omega), Kp.cell k6 S9 (by have := lt_of_heap hq5; have := LP.out; have := LB.out; simp; omega), Kp.cell k6 S10 (by have := lt_of_heap hq5; have := LP.out; have := LB.out; simp; omega), Kp.cell k6 S11 (by have := lt_of_heap hq5; have := LP.out; have := LB.out; simp; omega), Kp.cell k6 S12 (by have := lt_of_heap hq5; have := LP.out; have := LB.out; simp; omega)⟩) (fun hHeld => ?_)
        clear hK K'
        try simp only [Act.put, gA, gS, gZ, sA, sZ, sS]
        refine tk 7 (.tuple #[.int .u8 0, .bool true]) rfl (.inl ⟨by rfl, ?_⟩) ?_
        · intro w9 hSw
          try dsimp only at hSw
          go_simp
          all_goals try decide
          all_goals try assumption
          all_goals try omega
        try simp only [Act.put, gA, gS, gZ, sA, sZ, sS]
        refine tk 8 (.int .u8 0) rfl (.inl ⟨by rfl, ?_⟩) ?_
        · intro w9 hSw
          try dsimp only at hSw
          go_simp
          all_goals try decide
          all_goals try assumption
          all_goals try omega
        try simp only [Act.put, gA, gS, gZ, sA, sZ, sS]
        refine tk 9 (.bool true) rfl (.inl ⟨by rfl, ?_⟩) ?_
        · intro w9 hSw
          try dsimp only at hSw
          go_simp
          all_goals try decide
          all_goals try assumption
          all_goals try omega
        try simp only [Act.put, gA, gS, gZ, sA, sZ, sS]
        refine tk 10 (.int .u8 0) rfl (.inl ⟨by rfl, ?_⟩) ?_
        · intro w9 hSw
          try dsimp only at hSw
          go_simp
          all_goals try decide
          all_goals try assumption
          all_goals try omega
        try simp only [Act.put, gA, gS, gZ, sA, sZ, sS]
        refine tk 11 (.bool true) rfl (.inl ⟨by rfl, ?_⟩) ?_
        · intro w9 hSw
          try dsimp only at hSw
          go_simp
          all_goals try decide
          all_goals try assumption
          all_goals try omega
        try simp only [Act.put, gA, gS, gZ, sA, sZ, sS]
        refine wpAnyH_done (by kernel_rfl) ?_ _
        obtain ⟨T0, T1, T2, T3, T4, T5, T6, T7, T8, T9, T10, T11, T12⟩ := hHeld
        have lb6 : b < w6.heap.size := block_lt_of_cell T12
        have NEW : Hid (∃ due m' last c k, m' = nxt 0 1 ∧ last = Q ∧ Fol w6 p q w.heap.size id P 0 S fi fn d0 d1 d2 d3 d4 d5 d6 d7 fr due m' last c k) := STEP.out w6 hp6 hq6 hb6
        clear STEP hp6 hq6 hb6 k6 hp5 hq5 hb5 c5 T1 T2 T3 T4 T5 T6 T7 T8 T9 T10 T11
        obtain ⟨due', m', last', c', k', hm', hl', NF⟩ := NEW.out
        have NF : Hid (Fol w6 p q w.heap.size id P 0 S fi fn d0 d1 d2 d3 d4 d5 d6 d7 fr due' m' last' c' k') := NF
        clear NEW
        have HM : Hid (m' = nxt 0 1 ∧ last' = Q) := ⟨hm', hl'⟩
        clear hm' hl'
        by_cases hl0 : last < 0
        · go_wp2_with fail
          exact ⟨⟨i + 1, by omega, by go_num, T0, due', m', last', c', k', by rw [HM.out.1]; rfl, by rw [HM.out.2], NF.out⟩, by simp [intOf]; omega⟩
        · go_wp2_with fail
          exact ⟨⟨i + 1, by omega, by go_num, T0, due', m', last', c', k', by rw [HM.out.1]; rfl, by rw [HM.out.2], NF.out⟩, by simp [intOf]; omega⟩
      · have hd1 : due + ((t - due) / P + 1) * P = S + ((t - S) / P + 1) * P := by rw [FO.out.du]; exact fol_due AR.out.2.2.2.1
        have TK := tick_1 p id top P due m t h0 (by have := AR.out.2.2.1; omega) AR.out.1 hx hy AR.out.2.2.2.1 AR.out.2.2.2.2.1 (by have := FO.out.m1; omega) (by rw [FO.out.du]; have := Int.mul_nonneg (a := k) (b := P) (by have := FO.out.k1; omega) (by have := AR.out.2.2.2.1; omega); have := AR.out.2.2.2.2.2.1; omega) w4 FO.out.hp
        rw [hd1] at TK
        clear hd1
        have HE : Hid (HearsP q id top 0 c id 1 m 0 0 0 0 0 0 0 false t m true (c.hear top m t)) := by have := hears_right (p := q) (id := id) (W := 0) (n := 1) (d0 := m) (d1 := 0) (d2 := 0) (d3 := 0) (d4 := 0) (d5 := 0) (d6 := 0) (d7 := 0) (now := t) FO.out.co AR.out.1 AR.out.2.2.1 (by have := FO.out.m1; omega) hx (by have := FO.out.m1; have := FO.out.mt h0; simp [isB, h0, sameF_self]; omega) (by have := FO.out.lo; omega); rw [if_neg h0] at this; exact this
        have CH : c.hear top m t = ⟨true, t, m, 0, 0⟩ := by
          have g0 : c.hd = true → gap top c.n m = 0 := fun e => gap_zero (FO.out.fo e h0)
          by_cases e : c.hd = true
          · simp [Cst.hear, h0, e, g0 e, FO.out.lo, FO.out.wr]
          · simp [Cst.hear, h0, e, FO.out.lo, FO.out.wr]
        rw [CH] at HE
        clear CH
        have STEP : Hid (∀ w' : World, w'.heap[p]? = some (.cells (prC id top P true (S + ((t - S) / P + 1) * P) (nxt top m)) 81 (0, 0)) → w'.heap[q]? = some (.cells (csC id top 0 true t m 0 0) 86 (0, 0)) → w'.heap[w.heap.size]? = some (.cells (frC fi fn d0 d1 d2 d3 d4 d5 d6 d7 fr) 39 (0, 0)) → ∃ due m' last c k, m' = nxt top m ∧ last = (t - S) / P ∧ Fol w' p q w.heap.size id P top S fi fn d0 d1 d2 d3 d4 d5 d6 d7 fr due m' last c k) := fun w' h1 h2 h3 => ⟨_, _, _, _, _, rfl, rfl, FO.out.step AR.out.2.2.2.1 AR.out.2.1 AR.out.2.2.1 hy hx h1 (by rw [if_neg h0]; exact h2) h3⟩
        have qk : k ≤ (t - S) / P := fol_q AR.out.2.2.2.1 (by rw [← FO.out.du]; exact hy)
        have q1 : last < (t - S) / P := by have := FO.out.la; omega
        have q3 : S + P ≤ t := by have h1 := FO.out.du; have h2 := FO.out.k1; have h3 := AR.out.2.2.2.1; have h4 : 1 * P ≤ k * P := Int.mul_le_mul_of_nonneg_right h2 (by omega); omega
        have q4 : (t - S) / P ≤ t - S := Int.ediv_le_self _ (by have := AR.out.2.2.2.1; omega)
        have q5 : 0 ≤ (t - S) / P := by have := FO.out.k1; omega
        have W1 : IntKind.i64.wrap (S + P) = S + P := w64 _ (by have := AR.out.2.2.2; omega) (by have := AR.out.2.2.2; omega)
        have W2 : IntKind.i64.wrap (t - S) = t - S := w64 _ (by have := AR.out.2.2.2; omega) (by have := AR.out.2.2.2; omega)
        have W3 : (t - S).tdiv P = (t - S) / P := Int.tdiv_eq_ediv_of_nonneg (by have := AR.out.2.2.2; omega)
        have W4 : IntKind.i64.wrap ((t - S) / P) = (t - S) / P := w64 _ (by omega) (by have := AR.out.2.2.2; omega)
        have zP : ¬ P = 0 := by have := AR.out.2.2.2.1; omega
        have MI := FO.out.m1
        obtain ⟨npq, npb, nqb⟩ := FO.out.pq
        have hq0 := FO.out.hq
        have hb0 := FO.out.hb
        clear FO qk hx hy
        obtain ⟨Q, hQ⟩ : ∃ Q, Hid ((t - S) / P = Q) := ⟨_, rfl⟩
        rw [hQ.out] at STEP q1 q4 q5 W3 W4 TK
        clear hQ
        have q2 : ¬ t < S + P := by omega
        have q6 : ¬ Q ≤ last := by omega
        clear q1 q3 q4
        go_wp2_with fail
        refine TK.mono ?_
        rintro e w5 ⟨rfl, hp5, k5⟩
        clear TK
        have hq5 := Kp.at k5 (j := q) (by simpa using npq.symm) hq0
        have hb5 := Kp.at k5 (j := w.heap.size) (by simpa using npb.symm) hb0
        have c5 := Kp.cell k5 c0 (by have := LP.out; have := LB.out; simp; omega)
        have B5 : Below w.heap.size w w5 := Kp.below B k5 B.size (by intro j hj; have := LP.out; simp at hj; omega)
        clear k5 B hq0 hb0
        have lb5 : b < w5.heap.size := block_lt_of_cell c5
        go_wp2_with fail
        refine wp_region_held_drew (S := fun x => Below w.heap.size w x ∧ x.cell? ⟨w5.heap.size, 0, none⟩ = some (.int .u16 id) ∧ x.cell? ⟨w5.heap.size, 1, none⟩ = some (.int .i64 1) ∧ x.cell? ⟨w5.heap.size, 2, none⟩ = some (.int .u8 m) ∧ x.cell? ⟨w5.heap.size, 3, none⟩ = some (.int .u8 0) ∧ x.cell? ⟨w5.heap.size, 4, none⟩ = some (.int .u8 0) ∧ x.cell? ⟨w5.heap.size, 5, none⟩ = some (.int .u8 0) ∧ x.cell? ⟨w5.heap.size, 6, none⟩ = some (.int .u8 0) ∧ x.cell? ⟨w5.heap.size, 7, none⟩ = some (.int .u8 0) ∧ x.cell? ⟨w5.heap.size, 8, none⟩ = some (.int .u8 0) ∧ x.cell? ⟨w5.heap.size, 9, none⟩ = some (.int .u8 0) ∧ x.cell? ⟨w5.heap.size, 10, none⟩ = some (.bool false) ∧ x.cell? ⟨b, off + i, none⟩ = some (.int .i64 t)) (by kernel_rfl) (⟨Below.drew (Below.al B5 _), by simp [go_sem], by simp [go_sem], by simp [go_sem], by simp [go_sem], by simp [go_sem], by simp [go_sem], by simp [go_sem], by simp [go_sem], by simp [go_sem], by simp [go_sem], by simp [go_sem], cla11 c5⟩) (fun hHeld => ?_)
        refine tk 0 (.pointer (some ⟨q, 0, none⟩)) rfl (.inl ⟨by rfl, ?_⟩) ?_
        · intro w9 hSw
          try dsimp only at hSw
          go_simp
          all_goals try decide
          all_goals try assumption
          all_goals try omega
        try simp only [Act.put, gA, gS, gZ, sA, sZ, sS]
        refine tk 1 (frV id 1 m 0 0 0 0 0 0 0 false) rfl (.inl ⟨by rfl, ?_⟩) ?_
        · intro w9 hSw
          try dsimp only at hSw
          go_simp
          all_goals try decide
          all_goals try assumption
          all_goals try omega
        try simp only [Act.put, gA, gS, gZ, sA, sZ, sS]
        refine tk 2 (.slice (some ⟨b, off, none⟩) len cap) rfl (.inl ⟨by rfl, ?_⟩) ?_
        · intro w9 hSw
          try dsimp only at hSw
          go_simp
          all_goals try decide
          all_goals try assumption
          all_goals try omega
        try simp only [Act.put, gA, gS, gZ, sA, sZ, sS]
        refine tk 3 (.int .i64 (i : Int)) rfl (.inl ⟨by rfl, ?_⟩) ?_
        · intro w9 hSw
          try dsimp only at hSw
          go_simp
          all_goals try decide
          all_goals try assumption
          all_goals try omega
        try simp only [Act.put, gA, gS, gZ, sA, sZ, sS]
        refine tk 4 (.pointer (some ⟨b, off + i, none⟩)) rfl (.inl ⟨by rfl, ?_⟩) ?_
        · intro w9 hSw
          try dsimp only at hSw
          go_simp
          all_goals try decide
          all_goals try assumption
          all_goals try omega
        try simp only [Act.put, gA, gS, gZ, sA, sZ, sS]
        refine tk 5 (.int .i64 t) rfl (.inl ⟨by rfl, ?_⟩) ?_
        · intro w9 hSw
          try dsimp only at hSw
          go_simp
          all_goals try decide
          all_goals try assumption
          all_goals try omega
        try simp only [Act.put, gA, gS, gZ, sA, sZ, sS]
        refine wpAnyH_ready (rs := [6]) (by kernel_rfl) (by simp) ?_
        refine AllReadyH.cons rfl (fun K' hK => ?_) AllReadyH.nil
        rw [if_pos (by rfl)]
        simp only [gA, gS, gZ]
        obtain ⟨S0, S1, S2, S3, S4, S5, S6, S7, S8, S9, S10, S11, S12⟩ := hHeld
        go_wp2_with fail
        refine (HE.out _ (blk11 (Below.drew (Below.refl _ _)) (ext11 (o := .cells (frC id 1 m 0 0 0 0 0 0 0 false) 39) hq5))).mono ?_
        rintro e w6 ⟨rfl, hq6, k6⟩
        try go_wp2_with fail
        have hp6 := Kp.at k6 (j := p) (by simpa using npq) (blk11 (Below.drew (Below.refl _ _)) (ext11 (o := .cells (frC id 1 m 0 0 0 0 0 0 0 false) 39) hp5))
        have hb6 := Kp.at k6 (j := w.heap.size) (by simpa using nqb.symm) (blk11 (Below.drew (Below.refl _ _)) (ext11 (o := .cells (frC id 1 m 0 0 0 0 0 0 0 false) 39) hb5))
        refine hK.out _ _ (⟨Kp.below S0 k6 S0.size (by intro j hj; have := LP.out; simp at hj; omega), Kp.cell k6 S1 (by have := lt_of_heap hq5; have := LP.out; have := LB.out; simp; omega), Kp.cell k6 S2 (by have := lt_of_heap hq5; have := LP.out; have := LB.out; simp; omega), Kp.cell k6 S3 (by have := lt_of_heap hq5; have := LP.out; have := LB.out; simp; omega), Kp.cell k6 S4 (by have := lt_of_heap hq5; have := LP.out; have := LB.out; simp; omega), Kp.cell k6 S5 (by have := lt_of_heap hq5; have := LP.out; have := LB.out; simp; omega), Kp.cell k6 S6 (by have := lt_of_heap hq5; have := LP.out; have := LB.out; simp; omega), Kp.cell k6 S7 (by have := lt_of_heap hq5; have := LP.out; have := LB.out; simp; omega), Kp.cell k6 S8 (by have := lt_of_heap hq5; have := LP.out; have := LB.out; simp; omega), Kp.cell k6 S9 (by have := lt_of_heap hq5; have := LP.out; have := LB.out; simp; omega), Kp.cell k6 S10 (by have := lt_of_heap hq5; have := LP.out; have := LB.out; simp; omega), Kp.cell k6 S11 (by have := lt_of_heap hq5; have := LP.out; have := LB.out; simp; omega), Kp.cell k6 S12 (by have := lt_of_heap hq5; have := LP.out; have := LB.out; simp; omega)⟩) (fun hHeld => ?_)
        clear hK K'
        try simp only [Act.put, gA, gS, gZ, sA, sZ, sS]
        refine tk 7 (.tuple #[.int .u8 m, .bool true]) rfl (.inl ⟨by rfl, ?_⟩) ?_
        · intro w9 hSw
          try dsimp only at hSw
          go_simp
          all_goals try decide
          all_goals try assumption
          all_goals try omega
        try simp only [Act.put, gA, gS, gZ, sA, sZ, sS]
        refine tk 8 (.int .u8 m) rfl (.inl ⟨by rfl, ?_⟩) ?_
        · intro w9 hSw
          try dsimp only at hSw
          go_simp
          all_goals try decide
          all_goals try assumption
          all_goals try omega
        try simp only [Act.put, gA, gS, gZ, sA, sZ, sS]
        refine tk 9 (.bool true) rfl (.inl ⟨by rfl, ?_⟩) ?_
        · intro w9 hSw
          try dsimp only at hSw
          go_simp
          all_goals try decide
          all_goals try assumption
          all_goals try omega
        try simp only [Act.put, gA, gS, gZ, sA, sZ, sS]
        refine tk 10 (.int .u8 m) rfl (.inl ⟨by rfl, ?_⟩) ?_
        · intro w9 hSw
          try dsimp only at hSw
          go_simp
          all_goals try decide
          all_goals try assumption
          all_goals try omega
        try simp only [Act.put, gA, gS, gZ, sA, sZ, sS]
        refine tk 11 (.bool true) rfl (.inl ⟨by rfl, ?_⟩) ?_
        · intro w9 hSw
          try dsimp only at hSw
          go_simp
          all_goals try decide
          all_goals try assumption
          all_goals try omega
        try simp only [Act.put, gA, gS, gZ, sA, sZ, sS]
        refine wpAnyH_done (by kernel_rfl) ?_ _
        obtain ⟨T0, T1, T2, T3, T4, T5, T6, T7, T8, T9, T10, T11, T12⟩ := hHeld
        have lb6 : b < w6.heap.size := block_lt_of_cell T12
        have NEW : Hid (∃ due m' last c k, m' = nxt top m ∧ last = Q ∧ Fol w6 p q w.heap.size id P top S fi fn d0 d1 d2 d3 d4 d5 d6 d7 fr due m' last c k) := STEP.out w6 hp6 hq6 hb6
        clear STEP hp6 hq6 hb6 k6 hp5 hq5 hb5 c5 T1 T2 T3 T4 T5 T6 T7 T8 T9 T10 T11
        obtain ⟨due', m', last', c', k', hm', hl', NF⟩ := NEW.out
        have NF : Hid (Fol w6 p q w.heap.size id P top S fi fn d0 d1 d2 d3 d4 d5 d6 d7 fr due' m' last' c' k') := NF
        clear NEW
        have HM : Hid (m' = nxt top m ∧ last' = Q) := ⟨hm', hl'⟩
        clear hm' hl'
        have tp0 : 0 < top := by have := AR.out.2.1; omega
        by_cases hl0 : last < 0
        · by_cases hwr : top < m + 1
          · go_wp2_with fail
            exact ⟨⟨i + 1, by omega, by go_num, T0, due', m', last', c', k', by rw [HM.out.1]; unfold nxt; rw [if_pos (by omega)], by rw [HM.out.2], NF.out⟩, by simp [intOf]; omega⟩
          · go_wp2_with fail
            exact ⟨⟨i + 1, by omega, by go_num, T0, due', m', last', c', k', by rw [HM.out.1]; unfold nxt; rw [if_neg (by omega)], by rw [HM.out.2], NF.out⟩, by simp [intOf]; omega⟩
        · by_cases hwr : top < m + 1
          · go_wp2_with fail
            exact ⟨⟨i + 1, by omega, by go_num, T0, due', m', last', c', k', by rw [HM.out.1]; unfold nxt; rw [if_pos (by omega)], by rw [HM.out.2], NF.out⟩, by simp [intOf]; omega⟩
          · go_wp2_with fail
            exact ⟨⟨i + 1, by omega, by go_num, T0, due', m', last', c', k', by rw [HM.out.1]; unfold nxt; rw [if_neg (by omega)], by rw [HM.out.2], NF.out⟩, by simp [intOf]; omega⟩

theorem syncFollows_any (id P top S : Int) (a : Option Addr) (len cap : Nat) (fi fn d0 d1 d2 d3 d4 d5 d6 d7 : Int) (fr : Bool) (L : List Int) (w : World) (o : IsTx w a len L) (ht0 : 0 ≤ top) : Calls Try.prog 5 #[.int .u16 id, .int .i64 P, .int .u8 top, .int .i64 S, .slice a len cap, frV fi fn d0 d1 d2 d3 d4 d5 d6 d7 fr] w fun e w' => e = .returned (.bool true) ∧ Below w.heap.size w w' := by
  cases h : npB id P top with
  | false =>
    cases h2 : ncB id 0 top with
    | false => exact follows_bad1 id P top S a len cap fi fn d0 d1 d2 d3 d4 d5 d6 d7 fr w h h2
    | true => exact follows_bad2 id P top S a len cap fi fn d0 d1 d2 d3 d4 d5 d6 d7 fr w h h2
  | true =>
    by_cases hl : 300 < len
    · exact follows_many id P top S a len cap fi fn d0 d1 d2 d3 d4 d5 d6 d7 fr w h hl
    · cases hS : tmB S with
      | false => exact follows_none id P top S a len cap fi fn d0 d1 d2 d3 d4 d5 d6 d7 fr w h (by omega) hS
      | true => exact follows_good id P top S a len cap fi fn d0 d1 d2 d3 d4 d5 d6 d7 fr L w o h (by omega) hS ht0
#print axioms syncFollows_any
end Go.Proofs.Ytlijkgkkoahajaa
