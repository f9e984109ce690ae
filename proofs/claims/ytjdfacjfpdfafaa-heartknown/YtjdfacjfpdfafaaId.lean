/-
  HeartBeats of any beater and any row of calls.
-/
import Derived.Test.YtjdfacjfpdfafaaIb
import Derived.Test.YtjdfacjfpdfafaaIc
namespace Go.Proofs.Ytjdfacjfpdfafaa
open Go.RowKit

/-- A pair, the program's beater and the document's, that stand the same. -/
structure Pair (w : World) (p q : Nat) (a P n : Int) : Prop where
  hp : w.heap[p]? = some (.cells (bC a P n) 76 (0, 0))
  hq : w.heap[q]? = some (.cells (bC a P n) 43 (0, 0))
  P0 : 0 ≤ P
  P1 : P ≤ 1099511627776
theorem Pair.ne {w : World} {p q : Nat} {a P n : Int} (h : Pair w p q a P n) : p ≠ q := by
  intro e; subst e; have := h.hp.symm.trans h.hq; simp at this
theorem Pair.next {w w' : World} {p q : Nat} {a P n : Int} (h : Pair w p q a P n) (hb : Below w.heap.size w w') : Pair w' p q a P n := ⟨blk11 hb h.hp, blk11 hb h.hq, h.P0, h.P1⟩
theorem set_two (p q : Nat) (a P n x y : Int) (h0 : 0 ≤ P) (h1 : P ≤ 1099511627776) : ∃ (r P' n' : Int), (0 ≤ P' ∧ P' ≤ 1099511627776) ∧
    (∀ W : World, W.heap[p]? = some (.cells (bC a P n) 76 (0, 0)) → Calls Try.prog 11 #[pt p, .int .i64 x, .int .i64 y] W fun e w' => e = .returned (.int .i64 r) ∧ w'.heap[p]? = some (.cells (bC a P' n') 76 (0, 0)) ∧ Kp [p] W w') ∧
    (∀ W : World, W.heap[q]? = some (.cells (bC a P n) 43 (0, 0)) → Calls Try.prog 12 #[pt q, .int .i64 x, .int .i64 y] W fun e w' => e = .returned (.int .i64 r) ∧ w'.heap[q]? = some (.cells (bC a P' n') 43 (0, 0)) ∧ Kp [q] W w') := by
  by_cases h : tmB x = false ∨ tmB y = false
  · refine ⟨2, P, n, ⟨h0, h1⟩, fun W hp => (setB_no p x y h W).mono ?_, fun W hq => (setU_no q x y h W).mono ?_⟩
    · rintro e w' ⟨rfl, rfl⟩; exact ⟨rfl, hp, Kp.refl _ _⟩
    · rintro e w' ⟨rfl, rfl⟩; exact ⟨rfl, hq, Kp.refl _ _⟩
  · have hx : tmB x = true := by cases q : tmB x; exact absurd (.inl q) h; rfl
    have hy : tmB y = true := by cases q : tmB y; exact absurd (.inr q) h; rfl
    exact ⟨0, x, y, tmB_of hx, fun W hp => setB_ok hp x y hx hy, fun W hq => setU_ok hq x y hx hy⟩
theorem tick_two (p q : Nat) (a P n now s : Int) (ha : 0 ≤ a ∧ a < 256) (hs : 0 ≤ s ∧ s < 256) (h0 : 0 ≤ P) (h1 : P ≤ 1099511627776) : ∃ (x y z : Int) (ok : Bool) (n' : Int),
    (∀ W : World, W.heap[p]? = some (.cells (bC a P n) 76 (0, 0)) → Calls Try.prog 13 #[pt p, .int .i64 now, .int .u8 s] W fun e w' => e = .returned (.tuple #[frV x y z 0 0 0 0 0 0 0 false, .bool ok]) ∧ w'.heap[p]? = some (.cells (bC a P n') 76 (0, 0)) ∧ Kp [p] W w') ∧
    (∀ W : World, W.heap[q]? = some (.cells (bC a P n) 43 (0, 0)) → Calls Try.prog 14 #[pt q, .int .i64 now, .int .u8 s] W fun e w' => e = .returned (.tuple #[frV x y z 0 0 0 0 0 0 0 false, .bool ok]) ∧ w'.heap[q]? = some (.cells (bC a P n') 43 (0, 0)) ∧ Kp [q] W w') := by
  by_cases h : mute P n now s
  · refine ⟨0, 0, 0, false, n, fun W hp => (tickB_no hp now s h).mono ?_, fun W hq => (tickU_no hq now s h).mono ?_⟩
    · rintro e w' ⟨rfl, hb⟩; exact ⟨rfl, blk11 hb hp, Kp.of hb⟩
    · rintro e w' ⟨rfl, hb⟩; exact ⟨rfl, blk11 hb hq, Kp.of hb⟩
  · have hP : ¬ P = 0 := fun e => h (.inl e)
    have ht : tmB now = true := by cases q : tmB now; exact absurd (.inr (.inl q)) h; rfl
    have hn : ¬ now < n := fun e => h (.inr (.inr (.inl e)))
    have h5 : stB s = true := by cases q : stB s; exact absurd (.inr (.inr (.inr q))) h; rfl
    exact ⟨_, _, _, true, now + P, fun W hp => tickB_ok hp now s ha hs hP ⟨h0, h1⟩ ht hn h5, fun W hq => tickU_ok hq now s ha hs hP ⟨h0, h1⟩ ht hn h5⟩

set_option linter.unusedSimpArgs false in
set_option maxHeartbeats 4000000 in
set_option maxRecDepth 100000 in
theorem beats_many (a : Int) (ad : Option Addr) (len cap : Nat) (w : World) (hl : 300 < len) : Calls Try.prog 3 #[.int .u8 a, .slice ad len cap] w fun e w' => e = .returned (.bool true) ∧ Below w.heap.size w w' := by
  have hl' : (300 : Int) < (len : Int) := by omega
  go_enter Try.func3, Try.ntmps3
  go_wp2_with fail
  refine (works_any _).mono ?_
  rintro e w' ⟨rfl, hb⟩
  go_wp2_with fail
  go_ret
  exact ⟨rfl, hb⟩
set_option linter.unusedSimpArgs false in
set_option maxHeartbeats 4000000 in
set_option maxRecDepth 100000 in
theorem beats_bad (a : Int) (ad : Option Addr) (len cap : Nat) (w : World) (hl : len ≤ 300) (h : ndB a = false) : Calls Try.prog 3 #[.int .u8 a, .slice ad len cap] w fun e w' => e = .returned (.bool true) ∧ Below w.heap.size w w' := by
  have hl' : ¬ (300 : Int) < (len : Int) := by omega
  have NP := fun W => newB_bad a h W
  have NU := fun W => newU_bad a h W
  clear h
  go_enter Try.func3, Try.ntmps3
  go_wp2_with fail
  refine (NP _).mono ?_
  rintro e w1 ⟨rfl, rfl⟩
  go_wp2_with fail
  refine (NU _).mono ?_
  rintro e w2 ⟨rfl, rfl⟩
  go_wp2_with fail
  go_loopw [9] (fun u wr => u = .int .i64 0 ∧ wr = w2) (fun u _ => 0)
  case atStart => exact ⟨rfl, rfl⟩
  case round =>
    obtain ⟨rfl, rfl⟩ := hrel
    clear NP NU
    by_cases h0 : (0 : Int) < (len : Int)
    all_goals
      go_wp2_with fail
      refine (works_any _).mono ?_
      rintro e w' ⟨rfl, hb⟩
      go_wp2_with fail
      go_ret
      exact ⟨rfl, hb⟩
set_option linter.unusedSimpArgs false in
set_option maxHeartbeats 4000000 in
set_option maxRecDepth 100000 in
theorem beats_good (a : Int) (ad : Option Addr) (len cap : Nat) (L : List Bx) (w : World) (o : IsBx w ad len L) (hl : len ≤ 300) (h : ndB a = true) : Calls Try.prog 3 #[.int .u8 a, .slice ad len cap] w fun e w' => e = .returned (.bool true) ∧ Below w.heap.size w w' := by
  have hl' : ¬ (300 : Int) < (len : Int) := by omega
  have NP := fun W => newB_ok a h W
  have NU := fun W => newU_ok a h W
  have AR : Hid (0 ≤ a ∧ a < 256) := by show _ ∧ _; have := ndB_of h; omega
  clear h
  have O : Hid (IsBx w ad len L) := o
  have lsz := o.size
  clear o
  obtain ⟨p, hp0⟩ : ∃ p, Hid (p = w.heap.size) := ⟨_, rfl⟩
  obtain ⟨q, hq0⟩ : ∃ q, Hid (q = w.heap.size + 1) := ⟨_, rfl⟩
  have PR0 : Hid (Pair ((w.alloc (.cells (bC a 0 0) 76)).alloc (.cells (bC a 0 0) 43)) p q a 0 0) := ⟨ext11 (at11 _ _ _ hp0.out), at11 _ _ _ (by have := hq0.out; simp; omega), by decide, by decide⟩
  have LP : Hid (w.heap.size ≤ p ∧ w.heap.size ≤ q) := ⟨by have := hp0.out; omega, by have := hq0.out; omega⟩
  go_enter Try.func3, Try.ntmps3
  go_wp2_with fail
  refine (NP _).mono ?_
  rintro e w1 ⟨rfl, rfl⟩
  go_wp2_with fail
  refine (NU _).mono ?_
  rintro e w2 ⟨rfl, rfl⟩
  have B2 : Below w.heap.size w ((w.alloc (.cells (bC a 0 0) 76)).alloc (.cells (bC a 0 0) 43)) := (by repeat (first | exact Below.refl _ _ | apply Below.drew | apply Below.al))
  have es : (w.alloc (.cells (bC a 0 0) 76)).heap.size = q := by rw [hq0.out]; simp
  rw [es, ← hp0.out]
  clear es
  generalize hw2 : ((w.alloc (.cells (bC a 0 0) 76)).alloc (.cells (bC a 0 0) 43) : World) = w2 at PR0 B2 ⊢
  clear hw2 NP NU hp0 hq0
  go_wp2_with fail
  go_loopw [9] (fun u wr => ∃ i : Nat, i ≤ len ∧ u = .int .i64 i ∧ Below w.heap.size w wr ∧ ∃ P n, Pair wr p q a P n) (fun u _ => len - (intOf u).toNat)
  case atStart => exact ⟨0, Nat.zero_le _, rfl, B2, _, _, PR0.out⟩
  case round =>
    clear PR0 B2
    obtain ⟨i, hil, rfl, B, P, n, PR9⟩ := hrel
    have PR : Hid (Pair wr p q a P n) := PR9
    clear PR9
    by_cases hlt : i < len
    rotate_left
    · have g1 : ¬ (i : Int) < (len : Int) := by omega
      go_wp2_with fail
      refine (works_any _).mono ?_
      rintro e w' ⟨rfl, hb⟩
      go_wp2_with fail
      go_ret
      exact ⟨rfl, Below.andThen B hb⟩
    have g1 : (i : Int) < (len : Int) := by omega
    obtain ⟨x, hx⟩ : ∃ x, L[i]? = some x := ⟨L[i]'(by omega), List.getElem?_eq_getElem _⟩
    obtain ⟨k0, s0⟩ := O.out.good x (List.mem_of_getElem? hx)
    obtain ⟨b, off, e2, hc⟩ := (O.out.next B).at_ (by omega)
    have c0 := hc i x hx 0 _ rfl
    have c1 := hc i x hx 1 _ rfl
    have c2 := hc i x hx 2 _ rfl
    have c3 := hc i x hx 3 _ rfl
    have lbr : b < wr.heap.size := block_lt_of_cell c0
    clear hc
    subst e2
    rw [Nat.add_zero] at c0
    have km : x.k.tmod 4 = x.k % 4 := Int.tmod_eq_emod_of_nonneg k0.1
    have XS : Hid (0 ≤ x.s ∧ x.s < 256) := s0
    clear s0 hx
    have Y0 : Below w.heap.size w (wr.alloc (.cells #[.int .u8 x.k, .int .i64 x.N, .int .i64 x.now, .int .u8 x.s] 32)) := Below.al B _
    have PY : Hid (Pair (wr.alloc (.cells #[.int .u8 x.k, .int .i64 x.N, .int .i64 x.now, .int .u8 x.s] 32)) p q a P n) := PR.out.next (by repeat (first | exact Below.refl _ _ | apply Below.drew | apply Below.al))
    have gB0 := at11 wr (.cells #[.int .u8 x.k, .int .i64 x.N, .int .i64 x.now, .int .u8 x.s] 32) wr.heap.size rfl
    have NB : Hid (wr.heap.size ≠ p ∧ wr.heap.size ≠ q) := ⟨by have := lt_of_heap PR.out.hp; omega, by have := lt_of_heap PR.out.hq; omega⟩
    clear PR
    obtain ⟨BX, hBX⟩ : ∃ BX, Hid (BX = wr.heap.size) := ⟨_, rfl⟩
    rw [← hBX.out] at gB0 NB
    by_cases hrr : x.k % 4 = 0
    · have R1 : x.k.tmod 4 = 0 := by rw [km]; exact hrr
      obtain ⟨rs, P2, n2, PB, SP, SU⟩ := set_two p q a P n x.N x.now PY.out.P0 PY.out.P1
      have SP : Hid _ := SP
      have SU : Hid _ := SU
      have PB : Hid _ := PB
      clear km hrr k0
      go_wp2_with fail
      rw [← hBX.out]
      generalize hy : (wr.alloc (.cells #[.int .u8 x.k, .int .i64 x.N, .int .i64 x.now, .int .u8 x.s] 32) : World) = y at Y0 PY gB0 ⊢
      clear hy hBX c0 c1 c2 c3 lbr B
      have e1 : y.cell? ⟨BX, 1, none⟩ = some (.int .i64 x.N) := by rw [cell_of_row y _ 1 _ _ _ gB0]; rfl
      have e2 : y.cell? ⟨BX, 2, none⟩ = some (.int .i64 x.now) := by rw [cell_of_row y _ 2 _ _ _ gB0]; rfl
      have e3 : y.cell? ⟨BX, 3, none⟩ = some (.int .u8 x.s) := by rw [cell_of_row y _ 3 _ _ _ gB0]; rfl
      have lbx : BX < y.heap.size := lt_of_heap gB0
      refine wp_region_held_drew (S := fun x1 => Below w.heap.size w x1 ∧ x1.cell? ⟨BX, 1, none⟩ = some (.int .i64 x.N) ∧ x1.cell? ⟨BX, 2, none⟩ = some (.int .i64 x.now)) (by kernel_rfl) (⟨Below.drew Y0, e1, e2⟩) (fun hHeld => ?_)
      refine wpAnyH_take (i := 0) (v := (pt p)) rfl (by kernel_rfl) (by kernel_rfl) (by kernel_rfl) (fun _ _ _ h => h) (Or.inl ⟨by rfl, ?_⟩) (by assumption) ?_
      · intro w9 hSw
        try dsimp only at hSw
        go_simp
        all_goals try decide
        all_goals try assumption
        all_goals try omega
      try simp only [Act.put, List.getElem_toArray, List.getElem_cons_succ, List.getElem_cons_zero, List.setIfInBounds_toArray, List.set_cons_zero, List.set_cons_succ]
      refine wpAnyH_take (i := 1) (v := (.pointer (some ⟨BX, 1, none⟩))) rfl (by kernel_rfl) (by kernel_rfl) (by kernel_rfl) (fun _ _ _ h => h) (Or.inl ⟨by rfl, ?_⟩) (by assumption) ?_
      · intro w9 hSw
        try dsimp only at hSw
        go_simp
        all_goals try decide
        all_goals try assumption
        all_goals try omega
      try simp only [Act.put, List.getElem_toArray, List.getElem_cons_succ, List.getElem_cons_zero, List.setIfInBounds_toArray, List.set_cons_zero, List.set_cons_succ]
      refine wpAnyH_take (i := 2) (v := (.int .i64 x.N)) rfl (by kernel_rfl) (by kernel_rfl) (by kernel_rfl) (fun _ _ _ h => h) (Or.inl ⟨by rfl, ?_⟩) (by assumption) ?_
      · intro w9 hSw
        try dsimp only at hSw
        go_simp
        all_goals try decide
        all_goals try assumption
        all_goals try omega
      try simp only [Act.put, List.getElem_toArray, List.getElem_cons_succ, List.getElem_cons_zero, List.setIfInBounds_toArray, List.set_cons_zero, List.set_cons_succ]
      refine wpAnyH_take (i := 3) (v := (.pointer (some ⟨BX, 2, none⟩))) rfl (by kernel_rfl) (by kernel_rfl) (by kernel_rfl) (fun _ _ _ h => h) (Or.inl ⟨by rfl, ?_⟩) (by assumption) ?_
      · intro w9 hSw
        try dsimp only at hSw
        go_simp
        all_goals try decide
        all_goals try assumption
        all_goals try omega
      try simp only [Act.put, List.getElem_toArray, List.getElem_cons_succ, List.getElem_cons_zero, List.setIfInBounds_toArray, List.set_cons_zero, List.set_cons_succ]
      refine wpAnyH_take (i := 4) (v := (.int .i64 x.now)) rfl (by kernel_rfl) (by kernel_rfl) (by kernel_rfl) (fun _ _ _ h => h) (Or.inl ⟨by rfl, ?_⟩) (by assumption) ?_
      · intro w9 hSw
        try dsimp only at hSw
        go_simp
        all_goals try decide
        all_goals try assumption
        all_goals try omega
      try simp only [Act.put, List.getElem_toArray, List.getElem_cons_succ, List.getElem_cons_zero, List.setIfInBounds_toArray, List.set_cons_zero, List.set_cons_succ]
      refine wpAnyH_take (i := 6) (v := (pt q)) rfl (by kernel_rfl) (by kernel_rfl) (by kernel_rfl) (fun _ _ _ h => h) (Or.inl ⟨by rfl, ?_⟩) (by assumption) ?_
      · intro w9 hSw
        try dsimp only at hSw
        go_simp
        all_goals try decide
        all_goals try assumption
        all_goals try omega
      try simp only [Act.put, List.getElem_toArray, List.getElem_cons_succ, List.getElem_cons_zero, List.setIfInBounds_toArray, List.set_cons_zero, List.set_cons_succ]
      refine wpAnyH_take (i := 7) (v := (.pointer (some ⟨BX, 1, none⟩))) rfl (by kernel_rfl) (by kernel_rfl) (by kernel_rfl) (fun _ _ _ h => h) (Or.inl ⟨by rfl, ?_⟩) (by assumption) ?_
      · intro w9 hSw
        try dsimp only at hSw
        go_simp
        all_goals try decide
        all_goals try assumption
        all_goals try omega
      try simp only [Act.put, List.getElem_toArray, List.getElem_cons_succ, List.getElem_cons_zero, List.setIfInBounds_toArray, List.set_cons_zero, List.set_cons_succ]
      refine wpAnyH_take (i := 8) (v := (.int .i64 x.N)) rfl (by kernel_rfl) (by kernel_rfl) (by kernel_rfl) (fun _ _ _ h => h) (Or.inl ⟨by rfl, ?_⟩) (by assumption) ?_
      · intro w9 hSw
        try dsimp only at hSw
        go_simp
        all_goals try decide
        all_goals try assumption
        all_goals try omega
      try simp only [Act.put, List.getElem_toArray, List.getElem_cons_succ, List.getElem_cons_zero, List.setIfInBounds_toArray, List.set_cons_zero, List.set_cons_succ]
      refine wpAnyH_take (i := 9) (v := (.pointer (some ⟨BX, 2, none⟩))) rfl (by kernel_rfl) (by kernel_rfl) (by kernel_rfl) (fun _ _ _ h => h) (Or.inl ⟨by rfl, ?_⟩) (by assumption) ?_
      · intro w9 hSw
        try dsimp only at hSw
        go_simp
        all_goals try decide
        all_goals try assumption
        all_goals try omega
      try simp only [Act.put, List.getElem_toArray, List.getElem_cons_succ, List.getElem_cons_zero, List.setIfInBounds_toArray, List.set_cons_zero, List.set_cons_succ]
      refine wpAnyH_take (i := 10) (v := (.int .i64 x.now)) rfl (by kernel_rfl) (by kernel_rfl) (by kernel_rfl) (fun _ _ _ h => h) (Or.inl ⟨by rfl, ?_⟩) (by assumption) ?_
      · intro w9 hSw
        try dsimp only at hSw
        go_simp
        all_goals try decide
        all_goals try assumption
        all_goals try omega
      try simp only [Act.put, List.getElem_toArray, List.getElem_cons_succ, List.getElem_cons_zero, List.setIfInBounds_toArray, List.set_cons_zero, List.set_cons_succ]
      refine wpAnyH_ready (rs := [5]) (by kernel_rfl) (by simp) ?_
      refine AllReadyH.cons rfl (fun K' hK => ?_) AllReadyH.nil
      rw [if_pos (by rfl)]
      simp only [List.getElem_toArray, List.getElem_cons_succ, List.getElem_cons_zero]
      obtain ⟨S0, S1, S2⟩ := hHeld
      go_wp2_with fail
      refine (SP.out _ (PY.out.next (Below.drew (Below.refl _ _))).hp).mono ?_
      rintro e w3 ⟨rfl, hp3, k3⟩
      try go_wp2_with fail
      have B3 : Below w.heap.size w w3 := Kp.below S0 k3 S0.size (by intro j hj; have := LP.out; simp at hj; omega)
      have hq3 := Kp.at k3 (j := q) (by have := PY.out.ne; simp; omega) (PY.out.next (Below.drew (Below.refl _ _))).hq
      refine hK.out _ _ (⟨B3, Kp.cell k3 S1 (by have := NB.out; simp; omega), Kp.cell k3 S2 (by have := NB.out; simp; omega)⟩) (fun hHeld => ?_)
      clear hK K'
      try simp only [Act.put, List.getElem_toArray, List.getElem_cons_succ, List.getElem_cons_zero, List.setIfInBounds_toArray, List.set_cons_zero, List.set_cons_succ]
      refine wpAnyH_ready (rs := [11]) (by kernel_rfl) (by simp) ?_
      refine AllReadyH.cons rfl (fun K' hK => ?_) AllReadyH.nil
      rw [if_pos (by rfl)]
      simp only [List.getElem_toArray, List.getElem_cons_succ, List.getElem_cons_zero]
      obtain ⟨S0, S1, S2⟩ := hHeld
      go_wp2_with fail
      refine (SU.out _ hq3).mono ?_
      rintro e w4 ⟨rfl, hq4, k4⟩
      try go_wp2_with fail
      have B4 : Below w.heap.size w w4 := Kp.below B3 k4 B3.size (by intro j hj; have := LP.out; simp at hj; omega)
      have hp4 := Kp.at k4 (j := p) (by have := PY.out.ne; simp; omega) hp3
      refine hK.out _ _ (⟨B4, Kp.cell k4 S1 (by have := NB.out; simp; omega), Kp.cell k4 S2 (by have := NB.out; simp; omega)⟩) (fun hHeld => ?_)
      clear hK K'
      try simp only [Act.put, List.getElem_toArray, List.getElem_cons_succ, List.getElem_cons_zero, List.setIfInBounds_toArray, List.set_cons_zero, List.set_cons_succ]
      refine wpAnyH_take (i := 12) (v := (.bool false)) rfl (by kernel_rfl) (by kernel_rfl) (by kernel_rfl) (fun _ _ _ h => h) (Or.inl ⟨by rfl, ?_⟩) (by assumption) ?_
      · intro w9 hSw
        try dsimp only at hSw
        go_simp
        all_goals try decide
        all_goals try assumption
        all_goals try omega
      try simp only [Act.put, List.getElem_toArray, List.getElem_cons_succ, List.getElem_cons_zero, List.setIfInBounds_toArray, List.set_cons_zero, List.set_cons_succ]
      refine wpAnyH_done (by kernel_rfl) ?_ _
      have PR2 : Hid (Pair w4 p q a P2 n2) := ⟨hp4, hq4, PB.out.1, PB.out.2⟩
      clear hHeld hp3 hq3 k3 hp4 hq4 k4 SP SU PY PB Y0 B3 e1 e2 e3 gB0 S0 S1 S2
      have NEW : Hid (∃ P n, Pair w4 p q a P n) := ⟨_, _, PR2.out⟩
      by_cases hz : P2 = 0
      · subst hz
        have DUE := due_no PR2.out.hp
        have q1 : w4.cell? ⟨q, 1, none⟩ = some (.int .i64 0) := by rw [cell_of_row w4 _ 1 _ _ _ PR2.out.hq]; rfl
        have q2 : w4.cell? ⟨q, 2, none⟩ = some (.int .i64 n2) := by rw [cell_of_row w4 _ 2 _ _ _ PR2.out.hq]; rfl
        clear PR2
        go_wp2_with fail
        refine DUE.mono ?_
        rintro e w9 ⟨rfl, rfl⟩
        clear DUE
        go_wp2_with fail
        exact ⟨⟨i + 1, by omega, by go_num, B4, NEW.out⟩, by simp [intOf]; omega⟩
      · have DUE := due_yes PR2.out.hp hz
        have hp0 : 0 < P2 := by have := PR2.out.P0; omega
        have q1 : w4.cell? ⟨q, 1, none⟩ = some (.int .i64 P2) := by rw [cell_of_row w4 _ 1 _ _ _ PR2.out.hq]; rfl
        have q2 : w4.cell? ⟨q, 2, none⟩ = some (.int .i64 n2) := by rw [cell_of_row w4 _ 2 _ _ _ PR2.out.hq]; rfl
        clear PR2
        go_wp2_with fail
        refine DUE.mono ?_
        rintro e w9 ⟨rfl, rfl⟩
        clear DUE
        go_wp2_with fail
        exact ⟨⟨i + 1, by omega, by go_num, B4, NEW.out⟩, by simp [intOf]; omega⟩
    · have R1 : x.k.tmod 4 = x.k % 4 := km
      obtain ⟨fx, fy, fz, ok, n2, SP, SU⟩ := tick_two p q a P n x.now x.s AR.out XS.out PY.out.P0 PY.out.P1
      have SP : Hid _ := SP
      have SU : Hid _ := SU
      clear km k0
      have hneq : ∀ W : World, (binOp .neq 37 (frV fx fy fz 0 0 0 0 0 0 0 false) (frV fx fy fz 0 0 0 0 0 0 0 false)).run Try.prog W = .ok (.bool false) W := fun W => by rw [neqF, sameF_self]; rfl
      go_wp2_with fail
      rw [← hBX.out]
      generalize hy : (wr.alloc (.cells #[.int .u8 x.k, .int .i64 x.N, .int .i64 x.now, .int .u8 x.s] 32) : World) = y at Y0 PY gB0 ⊢
      clear hy hBX c0 c1 c2 c3 lbr B
      have e1 : y.cell? ⟨BX, 1, none⟩ = some (.int .i64 x.N) := by rw [cell_of_row y _ 1 _ _ _ gB0]; rfl
      have e2 : y.cell? ⟨BX, 2, none⟩ = some (.int .i64 x.now) := by rw [cell_of_row y _ 2 _ _ _ gB0]; rfl
      have e3 : y.cell? ⟨BX, 3, none⟩ = some (.int .u8 x.s) := by rw [cell_of_row y _ 3 _ _ _ gB0]; rfl
      have lbx : BX < y.heap.size := lt_of_heap gB0
      refine (SP.out _ PY.out.hp).mono ?_
      rintro e w3 ⟨rfl, hp3, k3⟩
      have B3 : Below w.heap.size w w3 := Kp.below Y0 k3 Y0.size (by intro j hj; have := LP.out; simp at hj; omega)
      have hq3 := Kp.at k3 (j := q) (by have := PY.out.ne; simp; omega) PY.out.hq
      have f2 := Kp.cell k3 e2 (by have := NB.out; simp; omega)
      have f3 := Kp.cell k3 e3 (by have := NB.out; simp; omega)
      have lb3 : BX < w3.heap.size := block_lt_of_cell f2
      clear k3 SP e1 e2 e3 gB0 lbx
      go_wp2_with fail
      refine (SU.out _ (ext11 hq3)).mono ?_
      rintro e w4 ⟨rfl, hq4, k4⟩
      have lq3 : q < w3.heap.size := lt_of_heap hq3
      have B4 : Below w.heap.size w w4 := Kp.below (Below.al B3 _) k4 (Below.al B3 _).size (by intro j hj; have := LP.out; simp at hj; omega)
      have hp4 := Kp.at k4 (j := p) (by have := PY.out.ne; simp; omega) (ext11 hp3)
      have F4 : w4.heap[w3.heap.size]? = some (.cells (frC fx fy fz 0 0 0 0 0 0 0 false) 37 (0, 0)) := Kp.at k4 (by simp; omega) (at11 _ _ _ rfl)
      obtain ⟨f0, f1, f2', f3', f4, f5, f6, f7, f8, f9, f10⟩ := frC_at F4
      have lf : w3.heap.size < w4.heap.size := lt_of_heap F4
      have PR2 : Hid (Pair (w4.alloc (.cells (frC fx fy fz 0 0 0 0 0 0 0 false) 37)) p q a P n2) := ⟨ext11 hp4, ext11 hq4, PY.out.P0, PY.out.P1⟩
      have B5 : Below w.heap.size w (w4.alloc (.cells (frC fx fy fz 0 0 0 0 0 0 0 false) 37)) := Below.al B4 _
      clear F4 k4 hp3 hq3 SU PY Y0 hp4 hq4 B4 f2 f3
      go_wp2_with fail
      obtain ⟨P2, hP2⟩ : ∃ P2, P2 = P := ⟨_, rfl⟩
      rw [← hP2] at PR2
      clear hP2
      have NEW : Hid (∃ P n, Pair (w4.alloc (.cells (frC fx fy fz 0 0 0 0 0 0 0 false) 37)) p q a P n) := ⟨_, _, PR2.out⟩
      by_cases hz : P2 = 0
      · subst hz
        have DUE := due_no PR2.out.hp
        have q1 : (w4.alloc (.cells (frC fx fy fz 0 0 0 0 0 0 0 false) 37)).cell? ⟨q, 1, none⟩ = some (.int .i64 0) := by rw [cell_of_row (w4.alloc (.cells (frC fx fy fz 0 0 0 0 0 0 0 false) 37)) _ 1 _ _ _ PR2.out.hq]; rfl
        have q2 : (w4.alloc (.cells (frC fx fy fz 0 0 0 0 0 0 0 false) 37)).cell? ⟨q, 2, none⟩ = some (.int .i64 n2) := by rw [cell_of_row (w4.alloc (.cells (frC fx fy fz 0 0 0 0 0 0 0 false) 37)) _ 2 _ _ _ PR2.out.hq]; rfl
        clear PR2
        go_wp2_with fail
        refine DUE.mono ?_
        rintro e w9 ⟨rfl, rfl⟩
        clear DUE
        go_wp2_with fail
        exact ⟨⟨i + 1, by omega, by go_num, B5, NEW.out⟩, by simp [intOf]; omega⟩
      · have DUE := due_yes PR2.out.hp hz
        have hp0 : 0 < P2 := by have := PR2.out.P0; omega
        have q1 : (w4.alloc (.cells (frC fx fy fz 0 0 0 0 0 0 0 false) 37)).cell? ⟨q, 1, none⟩ = some (.int .i64 P2) := by rw [cell_of_row (w4.alloc (.cells (frC fx fy fz 0 0 0 0 0 0 0 false) 37)) _ 1 _ _ _ PR2.out.hq]; rfl
        have q2 : (w4.alloc (.cells (frC fx fy fz 0 0 0 0 0 0 0 false) 37)).cell? ⟨q, 2, none⟩ = some (.int .i64 n2) := by rw [cell_of_row (w4.alloc (.cells (frC fx fy fz 0 0 0 0 0 0 0 false) 37)) _ 2 _ _ _ PR2.out.hq]; rfl
        clear PR2
        go_wp2_with fail
        refine DUE.mono ?_
        rintro e w9 ⟨rfl, rfl⟩
        clear DUE
        go_wp2_with fail
        exact ⟨⟨i + 1, by omega, by go_num, B5, NEW.out⟩, by simp [intOf]; omega⟩

theorem heartBeats_any (a : Int) (ad : Option Addr) (len cap : Nat) (L : List Bx) (w : World) (o : IsBx w ad len L) : Calls Try.prog 3 #[.int .u8 a, .slice ad len cap] w fun e w' => e = .returned (.bool true) ∧ Below w.heap.size w w' := by
  by_cases hl : 300 < len
  · exact beats_many a ad len cap w hl
  · cases h : ndB a with
    | false => exact beats_bad a ad len cap w (by omega) h
    | true => exact beats_good a ad len cap L w o (by omega) h
#print axioms heartBeats_any
end Go.Proofs.Ytjdfacjfpdfafaa
