/-
  SyncProduces of any producer and any row of calls.
-/
import Derived.Test.YtlijkgkkoahajaaYi
import Derived.Test.YtlijkgkkoahajaaTk9
namespace Go.Proofs.Ytlijkgkkoahajaa
open Go.RowKit

theorem start_two (p q : Nat) (id P top : Int) (g : Bool) (due n now : Int) (hP : 1 ≤ P) (hP2 : P ≤ 1099511627776) (hG : Goes top g due n) : ∃ (r : Int) (g' : Bool) (d' n' : Int), Goes top g' d' n' ∧
    (∀ W : World, W.heap[p]? = some (.cells (prC id top P g due n) 81 (0, 0)) → Calls Try.prog 12 #[.pointer (some ⟨p, 0, none⟩), .int .i64 now] W fun e w' => e = .returned (.int .i64 r) ∧ w'.heap[p]? = some (.cells (prC id top P g' d' n') 81 (0, 0)) ∧ Kp [p] W w') ∧
    (∀ W : World, W.heap[q]? = some (.cells (urC id P top g due n) 36 (0, 0)) → Calls Try.prog 13 #[.pointer (some ⟨q, 0, none⟩), .int .i64 now] W fun e w' => e = .returned (.int .i64 r) ∧ w'.heap[q]? = some (.cells (urC id P top g' d' n') 36 (0, 0)) ∧ Kp [q] W w') :=
  ⟨_, _, _, _, hG.started (now := now) hP, fun W hp => start_all p id P top g due n now hP hP2 W hp, fun W hp => ustart_all q id P top g due n now hP hP2 W hp⟩
theorem tick_two (p q : Nat) (id P top : Int) (g : Bool) (due n now : Int) (hi : id ≤ 2047) (ht0 : 0 ≤ top) (ht : top ≤ 240) (hP : 1 ≤ P) (hP2 : P ≤ 1099511627776) (hG : Goes top g due n) : ∃ (x y z : Int) (ok : Bool) (d' n' : Int), Goes top g d' n' ∧
    (∀ W : World, W.heap[p]? = some (.cells (prC id top P g due n) 81 (0, 0)) → Calls Try.prog 15 #[.pointer (some ⟨p, 0, none⟩), .int .i64 now] W fun e w' => e = .returned (.tuple #[frV x y z 0 0 0 0 0 0 0 false, .bool ok]) ∧ w'.heap[p]? = some (.cells (prC id top P g d' n') 81 (0, 0)) ∧ Kp [p] W w') ∧
    (∀ W : World, W.heap[q]? = some (.cells (urC id P top g due n) 36 (0, 0)) → Calls Try.prog 16 #[.pointer (some ⟨q, 0, none⟩), .int .i64 now] W fun e w' => e = .returned (.tuple #[frV x y z 0 0 0 0 0 0 0 false, .bool ok]) ∧ w'.heap[q]? = some (.cells (urC id P top g d' n') 36 (0, 0)) ∧ Kp [q] W w') :=
  ⟨_, _, _, _, _, _, hG.tick (id := id) (now := now) hP ht, fun W hp => tick_all p id P top g due n now hi ht hP hP2 hG W hp, fun W hp => utick_all q id P top g due n now ht0 hP hP2 hG W hp⟩

set_option linter.unusedSimpArgs false in
set_option maxHeartbeats 4000000 in
set_option maxRecDepth 100000 in
theorem produces_many (id P top : Int) (a : Option Addr) (len cap : Nat) (w : World) (hl : 300 < len) : Calls Try.prog 3 #[.int .u16 id, .int .i64 P, .int .u8 top, .slice a len cap] w fun e w' => e = .returned (.bool true) ∧ Below w.heap.size w w' := by
  have hl' : (300 : Int) < (len : Int) := by omega
  go_enter Try.func3, Try.ntmps3
  go_wp2_with fail
  refine (works_any _).mono ?_
  rintro e w' ⟨rfl, hb⟩
  go_wp2_with fail
  go_ret
  exact ⟨rfl, hb⟩
set_option linter.unusedSimpArgs false in
set_option maxHeartbeats 4000000 in
set_option maxRecDepth 100000 in
theorem produces_bad (id P top : Int) (a : Option Addr) (len cap : Nat) (w : World) (hl : len ≤ 300) (h : npB id P top = false) : Calls Try.prog 3 #[.int .u16 id, .int .i64 P, .int .u8 top, .slice a len cap] w fun e w' => e = .returned (.bool true) ∧ Below w.heap.size w w' := by
  have hl' : ¬ (300 : Int) < (len : Int) := by omega
  have NP := fun W => newP_bad id P top h W
  have NU := fun W => newU_bad id P top h W
  clear h
  go_enter Try.func3, Try.ntmps3
  go_wp2_with fail
  refine (NP _).mono ?_
  rintro e w1 ⟨rfl, b1⟩
  go_wp2_with fail
  refine (NU _).mono ?_
  rintro e w2 ⟨rfl, rfl⟩
  go_wp2_with fail
  go_loopw [13] (fun u wr => u = .int .i64 0 ∧ Below w.heap.size w wr) (fun u _ => 0)
  case atStart => exact ⟨rfl, b1⟩
  case round =>
    obtain ⟨rfl, hb0⟩ := hrel
    clear NP NU b1
    by_cases h0 : (0 : Int) < (len : Int)
    all_goals
      go_wp2_with fail
      refine (works_any _).mono ?_
      rintro e w' ⟨rfl, hb⟩
      go_wp2_with fail
      go_ret
      exact ⟨rfl, Below.andThen hb0 hb⟩
set_option linter.unusedSimpArgs false in
set_option maxHeartbeats 4000000 in
set_option maxRecDepth 100000 in
theorem produces_good (id P top : Int) (a : Option Addr) (len cap : Nat) (L : List Opx) (w : World) (o : IsOpx w a len L) (hl : len ≤ 300) (h : npB id P top = true) (ht0 : 0 ≤ top) : Calls Try.prog 3 #[.int .u16 id, .int .i64 P, .int .u8 top, .slice a len cap] w fun e w' => e = .returned (.bool true) ∧ Below w.heap.size w w' := by
  have hl' : ¬ (300 : Int) < (len : Int) := by omega
  have NP := fun W => newP_ok id P top h W
  have NU := fun W => newU_ok id P top h W
  obtain ⟨hi, ht, hP, hP2⟩ := npB_ok h
  have htt := tpB_le ht
  have AR : Hid (id ≤ 2047 ∧ 0 ≤ top ∧ top ≤ 240 ∧ 1 ≤ P ∧ P ≤ 1099511627776) := ⟨hi, ht0, htt, hP, hP2⟩
  clear h hi ht hP hP2 htt ht0
  have O : Hid (IsOpx w a len L) := o
  have lsz := o.size
  clear o
  go_enter Try.func3, Try.ntmps3
  go_wp2_with fail
  refine (NP _).mono ?_
  rintro e w1 ⟨⟨p, rfl, lp, hp⟩, b1⟩
  go_wp2_with fail
  refine (NU _).mono ?_
  rintro e w2 ⟨⟨q, rfl, lq, hq⟩, b2⟩
  have B2 : Below w.heap.size w w2 := Below.andThen b1 b2
  have LP : Hid (w.heap.size ≤ p ∧ w.heap.size ≤ q) := ⟨lp, by have := b1.size; omega⟩
  have PR : Hid (Pair w2 p q id P top false 0 0) := ⟨blk11 b2 hp, hq, Goes.off _ _ _⟩
  clear hp hq b1 b2 lp lq NP NU
  go_wp2_with fail
  go_loopw [13] (fun u wr => ∃ i : Nat, i ≤ len ∧ u = .int .i64 i ∧ Below w.heap.size w wr ∧ ∃ g due n, Pair wr p q id P top g due n) (fun u _ => len - (intOf u).toNat)
  case atStart => exact ⟨0, Nat.zero_le _, rfl, B2, _, _, _, PR.out⟩
  case round =>
    clear PR B2
    obtain ⟨i, hil, rfl, B, g, due, n, PR0⟩ := hrel
    have PR : Hid (Pair wr p q id P top g due n) := PR0
    clear PR0
    by_cases hlt : i < len
    rotate_left
    · have g1 : ¬ (i : Int) < (len : Int) := by omega
      go_wp2_with fail
      refine (works_any _).mono ?_
      rintro e w' ⟨rfl, hb⟩
      go_wp2_with fail
      go_ret
      exact ⟨rfl, Below.andThen B hb⟩
    have g1 : (i : Int) < (len : Int) := by omega
    obtain ⟨x, hx⟩ : ∃ x, L[i]? = some x := ⟨L[i]'(by omega), List.getElem?_eq_getElem _⟩
    obtain ⟨k0, k1⟩ := O.out.good x (List.mem_of_getElem? hx)
    obtain ⟨b, off, e2, hc⟩ := (O.out.next B).at_ (by omega)
    obtain ⟨c0, c1⟩ := hc i x hx
    have lb : b < w.heap.size := by
      obtain ⟨b', off', e3, hc'⟩ := O.out.at_ (by omega)
      rw [e2] at e3; cases e3
      exact block_lt_of_cell (hc' i x hx).1
    have LB : Hid (b < w.heap.size) := lb
    have lbr : b < wr.heap.size := block_lt_of_cell c0
    clear lb hc
    subst e2
    have LP1 := LP.out
    have km := Int.tmod_eq_emod_of_nonneg (b := 5) k0
    have hrr : x.k % 5 = 0 ∨ x.k % 5 = 1 ∨ 2 ≤ x.k % 5 := by omega
    rcases hrr with hrr | hrr | hrr
    · have R1 : x.k.tmod 5 = 0 := by rw [km]; exact hrr
      obtain ⟨rs, g2, d2, n2, G2, SP, SU⟩ := start_two p q id P top g due n x.now AR.out.2.2.2.1 AR.out.2.2.2.2 PR.out.go
      have SP : Hid (∀ W, Below wr.heap.size wr W → Calls Try.prog 12 #[.pointer (some ⟨p, 0, none⟩), .int .i64 x.now] W fun e w' => e = .returned (.int .i64 rs) ∧ w'.heap[p]? = some (.cells (prC id top P g2 d2 n2) 81 (0, 0)) ∧ Kp [p] W w') := fun W hW => SP W (blk11 hW PR.out.hp)
      have SU : Hid (∀ W, W.heap[q]? = some (.cells (urC id P top g due n) 36 (0, 0)) → Calls Try.prog 13 #[.pointer (some ⟨q, 0, none⟩), .int .i64 x.now] W fun e w' => e = .returned (.int .i64 rs) ∧ w'.heap[q]? = some (.cells (urC id P top g2 d2 n2) 36 (0, 0)) ∧ Kp [q] W w') := SU
      have G2 : Hid (Goes top g2 d2 n2) := G2
      clear km hrr
      go_wp2_with fail
      refine wp_region_held_drew (S := fun x1 => Below w.heap.size w x1 ∧ x1.cell? ⟨b, off + i * 2 + 1, none⟩ = some (.int .i64 x.now)) (by kernel_rfl) (⟨Below.drew B, c1⟩) (fun hHeld => ?_)
      refine tk 0 (.pointer (some ⟨p, 0, none⟩)) rfl (.inl ⟨by rfl, ?_⟩) ?_
      · intro w9 hSw
        try dsimp only at hSw
        go_simp
        all_goals try decide
        all_goals try assumption
        all_goals try omega
      try simp only [Act.put, gA, gS, gZ, sA, sZ, sS]
      refine tk 1 (.slice (some ⟨b, off, none⟩) len cap) rfl (.inl ⟨by rfl, ?_⟩) ?_
      · intro w9 hSw
        try dsimp only at hSw
        go_simp
        all_goals try decide
        all_goals try assumption
        all_goals try omega
      try simp only [Act.put, gA, gS, gZ, sA, sZ, sS]
      refine tk 2 (.int .i64 (i : Int)) rfl (.inl ⟨by rfl, ?_⟩) ?_
      · intro w9 hSw
        try dsimp only at hSw
        go_simp
        all_goals try decide
        all_goals try assumption
        all_goals try omega
      try simp only [Act.put, gA, gS, gZ, sA, sZ, sS]
      refine tk 3 (.pointer (some ⟨b, off + i * 2, none⟩)) rfl (.inl ⟨by rfl, ?_⟩) ?_
      · intro w9 hSw
        try dsimp only at hSw
        go_simp
        all_goals try decide
        all_goals try assumption
        all_goals try omega
      try simp only [Act.put, gA, gS, gZ, sA, sZ, sS]
      refine tk 4 (.pointer (some ⟨b, off + i * 2 + 1, none⟩)) rfl (.inl ⟨by rfl, ?_⟩) ?_
      · intro w9 hSw
        try dsimp only at hSw
        go_simp
        all_goals try decide
        all_goals try assumption
        all_goals try omega
      try simp only [Act.put, gA, gS, gZ, sA, sZ, sS]
      refine tk 5 (.int .i64 x.now) rfl (.inl ⟨by rfl, ?_⟩) ?_
      · intro w9 hSw
        try dsimp only at hSw
        go_simp
        all_goals try decide
        all_goals try assumption
        all_goals try omega
      try simp only [Act.put, gA, gS, gZ, sA, sZ, sS]
      refine tk 7 (.pointer (some ⟨q, 0, none⟩)) rfl (.inl ⟨by rfl, ?_⟩) ?_
      · intro w9 hSw
        try dsimp only at hSw
        go_simp
        all_goals try decide
        all_goals try assumption
        all_goals try omega
      try simp only [Act.put, gA, gS, gZ, sA, sZ, sS]
      refine tk 8 (.slice (some ⟨b, off, none⟩) len cap) rfl (.inl ⟨by rfl, ?_⟩) ?_
      · intro w9 hSw
        try dsimp only at hSw
        go_simp
        all_goals try decide
        all_goals try assumption
        all_goals try omega
      try simp only [Act.put, gA, gS, gZ, sA, sZ, sS]
      refine tk 9 (.int .i64 (i : Int)) rfl (.inl ⟨by rfl, ?_⟩) ?_
      · intro w9 hSw
        try dsimp only at hSw
        go_simp
        all_goals try decide
        all_goals try assumption
        all_goals try omega
      try simp only [Act.put, gA, gS, gZ, sA, sZ, sS]
      refine tk 10 (.pointer (some ⟨b, off + i * 2, none⟩)) rfl (.inl ⟨by rfl, ?_⟩) ?_
      · intro w9 hSw
        try dsimp only at hSw
        go_simp
        all_goals try decide
        all_goals try assumption
        all_goals try omega
      try simp only [Act.put, gA, gS, gZ, sA, sZ, sS]
      refine tk 11 (.pointer (some ⟨b, off + i * 2 + 1, none⟩)) rfl (.inl ⟨by rfl, ?_⟩) ?_
      · intro w9 hSw
        try dsimp only at hSw
        go_simp
        all_goals try decide
        all_goals try assumption
        all_goals try omega
      try simp only [Act.put, gA, gS, gZ, sA, sZ, sS]
      refine tk 12 (.int .i64 x.now) rfl (.inl ⟨by rfl, ?_⟩) ?_
      · intro w9 hSw
        try dsimp only at hSw
        go_simp
        all_goals try decide
        all_goals try assumption
        all_goals try omega
      try simp only [Act.put, gA, gS, gZ, sA, sZ, sS]
      refine wpAnyH_ready (rs := [6]) (by kernel_rfl) (by simp) ?_
      refine AllReadyH.cons rfl (fun K' hK => ?_) AllReadyH.nil
      rw [if_pos (by rfl)]
      simp only [gA, gS, gZ]
      obtain ⟨S0, S1⟩ := hHeld
      go_wp2_with fail
      refine (SP.out _ (Below.drew (Below.refl _ _))).mono ?_
      rintro e w3 ⟨rfl, hp3, k3⟩
      try go_wp2_with fail
      have B3 : Below w.heap.size w w3 := Kp.below S0 k3 S0.size (by intro j hj; have := LP.out; simp at hj; omega)
      have hq3 := Kp.at k3 (j := q) (by have := PR.out.ne; simp; omega) PR.out.hq
      refine hK.out _ _ (⟨B3, Kp.cell k3 S1 (by have := LP.out; have := LB.out; simp; omega)⟩) (fun hHeld => ?_)
      clear hK K'
      try simp only [Act.put, gA, gS, gZ, sA, sZ, sS]
      refine wpAnyH_ready (rs := [13]) (by kernel_rfl) (by simp) ?_
      refine AllReadyH.cons rfl (fun K' hK => ?_) AllReadyH.nil
      rw [if_pos (by rfl)]
      simp only [gA, gS, gZ]
      obtain ⟨S0, S1⟩ := hHeld
      go_wp2_with fail
      refine (SU.out _ hq3).mono ?_
      rintro e w4 ⟨rfl, hq4, k4⟩
      try go_wp2_with fail
      have B4 : Below w.heap.size w w4 := Kp.below B3 k4 B3.size (by intro j hj; have := LP.out; simp at hj; omega)
      have hp4 := Kp.at k4 (j := p) (by have := PR.out.ne; simp; omega) hp3
      refine hK.out _ _ (⟨B4, Kp.cell k4 S1 (by have := LP.out; have := LB.out; simp; omega)⟩) (fun hHeld => ?_)
      clear hK K'
      try simp only [Act.put, gA, gS, gZ, sA, sZ, sS]
      refine tk 14 (.bool false) rfl (.inl ⟨by rfl, ?_⟩) ?_
      · intro w9 hSw
        try dsimp only at hSw
        go_simp
        all_goals try decide
        all_goals try assumption
        all_goals try omega
      try simp only [Act.put, gA, gS, gZ, sA, sZ, sS]
      refine wpAnyH_done (by kernel_rfl) ?_ _
      have PR2 : Hid (Pair w4 p q id P top g2 d2 n2) := ⟨hp4, hq4, G2.out⟩
      clear hHeld hp3 hq3 k3 hp4 hq4 k4 SP SU PR B B3 LP1 c0 c1 G2
      have B3 := B4
      clear B4
      cases g2 with
      | true =>
        have DUE := due_yes p id top P d2 n2 w4 PR2.out.hp
        have NEW : Hid (∃ g due n, Pair w4 p q id P top g due n) := ⟨_, _, _, PR2.out⟩
        have q3 : w4.cell? ⟨q, 3, none⟩ = some (.bool true) := by rw [cell_of_row w4 _ 3 _ _ _ PR2.out.hq]; rfl
        have q4 : w4.cell? ⟨q, 4, none⟩ = some (.int .i64 d2) := by rw [cell_of_row w4 _ 4 _ _ _ PR2.out.hq]; rfl
        clear PR2
        go_wp2_with fail
        refine DUE.mono ?_
        rintro e w9 ⟨rfl, rfl⟩
        clear DUE
        go_wp2_with fail
        exact ⟨⟨i + 1, by omega, by go_num, B3, NEW.out⟩, by simp [intOf]; omega⟩
      | false =>
        have DUE := due_no p id top P d2 n2 w4 PR2.out.hp
        have NEW : Hid (∃ g due n, Pair w4 p q id P top g due n) := ⟨_, _, _, PR2.out⟩
        have q3 : w4.cell? ⟨q, 3, none⟩ = some (.bool false) := by rw [cell_of_row w4 _ 3 _ _ _ PR2.out.hq]; rfl
        have q4 : w4.cell? ⟨q, 4, none⟩ = some (.int .i64 d2) := by rw [cell_of_row w4 _ 4 _ _ _ PR2.out.hq]; rfl
        clear PR2
        go_wp2_with fail
        refine DUE.mono ?_
        rintro e w9 ⟨rfl, rfl⟩
        clear DUE
        go_wp2_with fail
        exact ⟨⟨i + 1, by omega, by go_num, B3, NEW.out⟩, by simp [intOf]; omega⟩
    · have R1 : x.k.tmod 5 = 1 := by rw [km]; exact hrr
      have ST := stop_any p id top P g due n wr PR.out.hp
      clear km hrr
      go_wp2_with fail
      refine ST.mono ?_
      rintro e w3 ⟨rfl, hp3, k3⟩
      clear ST
      have hq3 := Kp.at k3 (j := q) (by have := PR.out.ne; simp; omega) PR.out.hq
      have z3 := froz11 w3 q 3 _ _ hq3
      have B3 : Below w.heap.size w w3 := Kp.below B k3 B.size (by intro j hj; have := LP.out; simp at hj; omega)
      have e3 : w3.cell? ⟨q, 3, none⟩ = some (.bool g) := by rw [cell_of_row w3 _ 3 _ _ _ hq3]; rfl
      have PR2 : Hid (Pair (w3.setCell ⟨q, 3, none⟩ (.bool false)) p q id P top false due n) := ⟨(Below.heap_setCell _ _ _ _ (by have := PR.out.ne; show p ≠ q; omega)).trans hp3, heap_setCell_same _ _ _ _ _ _ hq3, Goes.off _ _ _⟩
      have B4 : Below w.heap.size w (w3.setCell ⟨q, 3, none⟩ (.bool false)) := Below.setCell B3 LP.out.2 _
      clear hp3 hq3 k3 PR B B3 LP1 c0 c1
      obtain ⟨d2, hd2⟩ : ∃ d2, d2 = due := ⟨_, rfl⟩
      obtain ⟨n2, hn2⟩ : ∃ n2, n2 = n := ⟨_, rfl⟩
      rw [← hd2, ← hn2] at PR2
      clear hd2 hn2
      have DUE := due_no p id top P d2 n2 (w3.setCell ⟨q, 3, none⟩ (.bool false)) PR2.out.hp
      have NEW : Hid (∃ g due n, Pair (w3.setCell ⟨q, 3, none⟩ (.bool false)) p q id P top g due n) := ⟨_, _, _, PR2.out⟩
      have q3 : (w3.setCell ⟨q, 3, none⟩ (.bool false)).cell? ⟨q, 3, none⟩ = some (.bool false) := by rw [cell_of_row (w3.setCell ⟨q, 3, none⟩ (.bool false)) _ 3 _ _ _ PR2.out.hq]; rfl
      have q4 : (w3.setCell ⟨q, 3, none⟩ (.bool false)).cell? ⟨q, 4, none⟩ = some (.int .i64 d2) := by rw [cell_of_row (w3.setCell ⟨q, 3, none⟩ (.bool false)) _ 4 _ _ _ PR2.out.hq]; rfl
      clear PR2
      go_wp2_with fail
      refine DUE.mono ?_
      rintro e w9 ⟨rfl, rfl⟩
      clear DUE
      go_wp2_with fail
      exact ⟨⟨i + 1, by omega, by go_num, B4, NEW.out⟩, by simp [intOf]; omega⟩
    · have R1 : x.k.tmod 5 = x.k % 5 := km
      have n0 : ¬ x.k % 5 = 0 := by omega
      have n1 : ¬ x.k % 5 = 1 := by omega
      obtain ⟨fx, fy, fz, ok, d2, n2, G2, SP, SU⟩ := tick_two p q id P top g due n x.now AR.out.1 AR.out.2.1 AR.out.2.2.1 AR.out.2.2.2.1 AR.out.2.2.2.2 PR.out.go
      have SP : Hid (∀ W, Below wr.heap.size wr W → Calls Try.prog 15 #[.pointer (some ⟨p, 0, none⟩), .int .i64 x.now] W fun e w' => e = .returned (.tuple #[frV fx fy fz 0 0 0 0 0 0 0 false, .bool ok]) ∧ w'.heap[p]? = some (.cells (prC id top P g d2 n2) 81 (0, 0)) ∧ Kp [p] W w') := fun W hW => SP W (blk11 hW PR.out.hp)
      have SU : Hid (∀ W, W.heap[q]? = some (.cells (urC id P top g due n) 36 (0, 0)) → Calls Try.prog 16 #[.pointer (some ⟨q, 0, none⟩), .int .i64 x.now] W fun e w' => e = .returned (.tuple #[frV fx fy fz 0 0 0 0 0 0 0 false, .bool ok]) ∧ w'.heap[q]? = some (.cells (urC id P top g d2 n2) 36 (0, 0)) ∧ Kp [q] W w') := SU
      have G2 : Hid (Goes top g d2 n2) := G2
      clear km hrr
      have hneq : ∀ W : World, (binOp .neq 39 (frV fx fy fz 0 0 0 0 0 0 0 false) (frV fx fy fz 0 0 0 0 0 0 0 false)).run Try.prog W = .ok (.bool false) W := fun W => by rw [neqF, sameF_self]; rfl
      go_wp2_with fail
      refine (SP.out _ (Below.refl _ _)).mono ?_
      rintro e w3 ⟨rfl, hp3, k3⟩
      have B3 : Below w.heap.size w w3 := Kp.below B k3 B.size (by intro j hj; have := LP.out; simp at hj; omega)
      have hq3 := Kp.at k3 (j := q) (by have := PR.out.ne; simp; omega) PR.out.hq
      have e1 := Kp.cell k3 c1 (by have := LP.out; have := LB.out; simp; omega)
      have lb3 : b < w3.heap.size := block_lt_of_cell e1
      clear k3 SP
      go_wp2_with fail
      refine (SU.out _ (ext11 hq3)).mono ?_
      rintro e w4 ⟨rfl, hq4, k4⟩
      have lq3 : q < w3.heap.size := lt_of_heap hq3
      have B4 : Below w.heap.size w w4 := Kp.below (Below.al B3 _) k4 (Below.al B3 _).size (by intro j hj; have := LP.out; simp at hj; omega)
      have hp4 := Kp.at k4 (j := p) (by have := PR.out.ne; simp; omega) (ext11 hp3)
      have F4 : w4.heap[w3.heap.size]? = some (.cells (frC fx fy fz 0 0 0 0 0 0 0 false) 39 (0, 0)) := Kp.at k4 (by simp; omega) (at11 _ _ _ rfl)
      obtain ⟨f0, f1, f2, f3, f4, f5, f6, f7, f8, f9, f10⟩ := frC_at F4
      have lf : w3.heap.size < w4.heap.size := lt_of_heap F4
      have PR2 : Hid (Pair (w4.alloc (.cells (frC fx fy fz 0 0 0 0 0 0 0 false) 39)) p q id P top g d2 n2) := ⟨ext11 hp4, ext11 hq4, G2.out⟩
      have B5 : Below w.heap.size w (w4.alloc (.cells (frC fx fy fz 0 0 0 0 0 0 0 false) 39)) := Below.al B4 _
      clear F4 k4 hp3 hq3 SU PR B B3 c0 c1 e1 LP1 hp4 hq4 B4 G2
      go_wp2_with fail
      obtain ⟨g2, hg2⟩ : ∃ g2, g2 = g := ⟨_, rfl⟩
      rw [← hg2] at PR2
      clear hg2
      cases g2 with
      | true =>
        have DUE := due_yes p id top P d2 n2 (w4.alloc (.cells (frC fx fy fz 0 0 0 0 0 0 0 false) 39)) PR2.out.hp
        have NEW : Hid (∃ g due n, Pair (w4.alloc (.cells (frC fx fy fz 0 0 0 0 0 0 0 false) 39)) p q id P top g due n) := ⟨_, _, _, PR2.out⟩
        have q3 : (w4.alloc (.cells (frC fx fy fz 0 0 0 0 0 0 0 false) 39)).cell? ⟨q, 3, none⟩ = some (.bool true) := by rw [cell_of_row (w4.alloc (.cells (frC fx fy fz 0 0 0 0 0 0 0 false) 39)) _ 3 _ _ _ PR2.out.hq]; rfl
        have q4 : (w4.alloc (.cells (frC fx fy fz 0 0 0 0 0 0 0 false) 39)).cell? ⟨q, 4, none⟩ = some (.int .i64 d2) := by rw [cell_of_row (w4.alloc (.cells (frC fx fy fz 0 0 0 0 0 0 0 false) 39)) _ 4 _ _ _ PR2.out.hq]; rfl
        clear PR2
        go_wp2_with fail
        refine DUE.mono ?_
        rintro e w9 ⟨rfl, rfl⟩
        clear DUE
        go_wp2_with fail
        exact ⟨⟨i + 1, by omega, by go_num, B5, NEW.out⟩, by simp [intOf]; omega⟩
      | false =>
        have DUE := due_no p id top P d2 n2 (w4.alloc (.cells (frC fx fy fz 0 0 0 0 0 0 0 false) 39)) PR2.out.hp
        have NEW : Hid (∃ g due n, Pair (w4.alloc (.cells (frC fx fy fz 0 0 0 0 0 0 0 false) 39)) p q id P top g due n) := ⟨_, _, _, PR2.out⟩
        have q3 : (w4.alloc (.cells (frC fx fy fz 0 0 0 0 0 0 0 false) 39)).cell? ⟨q, 3, none⟩ = some (.bool false) := by rw [cell_of_row (w4.alloc (.cells (frC fx fy fz 0 0 0 0 0 0 0 false) 39)) _ 3 _ _ _ PR2.out.hq]; rfl
        have q4 : (w4.alloc (.cells (frC fx fy fz 0 0 0 0 0 0 0 false) 39)).cell? ⟨q, 4, none⟩ = some (.int .i64 d2) := by rw [cell_of_row (w4.alloc (.cells (frC fx fy fz 0 0 0 0 0 0 0 false) 39)) _ 4 _ _ _ PR2.out.hq]; rfl
        clear PR2
        go_wp2_with fail
        refine DUE.mono ?_
        rintro e w9 ⟨rfl, rfl⟩
        clear DUE
        go_wp2_with fail
        exact ⟨⟨i + 1, by omega, by go_num, B5, NEW.out⟩, by simp [intOf]; omega⟩

theorem syncProduces_any (id P top : Int) (a : Option Addr) (len cap : Nat) (L : List Opx) (w : World) (o : IsOpx w a len L) (ht0 : 0 ≤ top) : Calls Try.prog 3 #[.int .u16 id, .int .i64 P, .int .u8 top, .slice a len cap] w fun e w' => e = .returned (.bool true) ∧ Below w.heap.size w w' := by
  by_cases hl : 300 < len
  · exact produces_many id P top a len cap w hl
  · cases h : npB id P top with
    | false => exact produces_bad id P top a len cap w (by omega) h
    | true => exact produces_good id P top a len cap L w o (by omega) h ht0
#print axioms syncProduces_any
end Go.Proofs.Ytlijkgkkoahajaa
