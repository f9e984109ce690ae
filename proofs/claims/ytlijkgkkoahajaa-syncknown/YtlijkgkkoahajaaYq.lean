/-
  SyncConsumes of any consumer, any row of frames and any time asked.
-/
import Derived.Test.YtlijkgkkoahajaaYi
import Derived.Test.YtlijkgkkoahajaaYk
import Derived.Test.YtlijkgkkoahajaaYp
import Derived.Test.YtlijkgkkoahajaaTk9
namespace Go.Proofs.Ytlijkgkkoahajaa
open Go.RowKit

/-- A pair of consumers that stand the same. -/
structure CPair (w : World) (p q : Nat) (id top W : Int) (c : Cst) : Prop where
  hp : w.heap[p]? = some (.cells (csC id top W c.hd c.a c.n c.lo c.wr) 86 (0, 0))
  hq : w.heap[q]? = some (.cells (vsC id W top c.hd c.a c.n c.lo c.wr) 58 (0, 0))
theorem CPair.ne {w : World} {p q : Nat} {id top W : Int} {c : Cst} (h : CPair w p q id top W c) : p ≠ q := by
  intro e; subst e; have := h.hp.symm.trans h.hq; simp at this
theorem CPair.next {w w' : World} {p q : Nat} {id top W : Int} {c : Cst} (h : CPair w p q id top W c) (hb : Below w.heap.size w w') : CPair w' p q id top W c := ⟨blk11 hb h.hp, blk11 hb h.hq⟩

set_option linter.unusedSimpArgs false in
set_option maxHeartbeats 4000000 in
set_option maxRecDepth 100000 in
theorem consumes_many (id P top : Int) (a : Option Addr) (len cap : Nat) (ask : Int) (w : World) (hl : 300 < len) : Calls Try.prog 4 #[.int .u16 id, .int .i64 P, .int .u8 top, .slice a len cap, .int .i64 ask] w fun e w' => e = .returned (.bool true) ∧ Below w.heap.size w w' := by
  have hl' : (300 : Int) < (len : Int) := by omega
  go_enter Try.func4, Try.ntmps4
  go_wp2_with fail
  refine (works_any _).mono ?_
  rintro e w' ⟨rfl, hb⟩
  go_wp2_with fail
  go_ret
  exact ⟨rfl, hb⟩
set_option linter.unusedSimpArgs false in
set_option maxHeartbeats 4000000 in
set_option maxRecDepth 100000 in
theorem consumes_bad (id P top : Int) (a : Option Addr) (len cap : Nat) (ask : Int) (w : World) (hl : len ≤ 300) (h : ncB id P top = false) : Calls Try.prog 4 #[.int .u16 id, .int .i64 P, .int .u8 top, .slice a len cap, .int .i64 ask] w fun e w' => e = .returned (.bool true) ∧ Below w.heap.size w w' := by
  have hl' : ¬ (300 : Int) < (len : Int) := by omega
  have NP := fun X => newC_bad id P top h X
  have NU := fun X => newV_bad id P top h X
  clear h
  go_enter Try.func4, Try.ntmps4
  go_wp2_with fail
  refine (NP _).mono ?_
  rintro e w1 ⟨rfl, b1⟩
  go_wp2_with fail
  refine (NU _).mono ?_
  rintro e w2 ⟨rfl, rfl⟩
  go_wp2_with fail
  go_loopw [15] (fun u wr => u = .int .i64 0 ∧ Below w.heap.size w wr) (fun u _ => 0)
  case atStart => exact ⟨rfl, b1⟩
  case round =>
    obtain ⟨rfl, hb0⟩ := hrel
    clear NP NU b1
    by_cases h0 : (0 : Int) < (len : Int)
    all_goals
      go_wp2_with fail
      refine (works_any _).mono ?_
      rintro e w' ⟨rfl, hb⟩
      go_wp2_with fail
      go_ret
      exact ⟨rfl, Below.andThen hb0 hb⟩
set_option linter.unusedSimpArgs false in
set_option maxHeartbeats 4000000 in
set_option maxRecDepth 100000 in
theorem consumes_good (id P top : Int) (a : Option Addr) (len cap : Nat) (ask : Int) (L : List Hx) (w : World) (o : IsHx w a len L) (hl : len ≤ 300) (h : ncB id P top = true) (ht0 : 0 ≤ top) : Calls Try.prog 4 #[.int .u16 id, .int .i64 P, .int .u8 top, .slice a len cap, .int .i64 ask] w fun e w' => e = .returned (.bool true) ∧ Below w.heap.size w w' := by
  have hl' : ¬ (300 : Int) < (len : Int) := by omega
  have NP := fun X => newC_ok id P top h X
  have NU := fun X => newV_ok id P top h X
  obtain ⟨hi, ht, hP⟩ := ncB_ok h
  have htt := tpB_le ht
  have AR : Hid (id ≤ 2047 ∧ 0 ≤ top ∧ top ≤ 240 ∧ len ≤ 300) := ⟨hi, ht0, htt, hl⟩
  clear h hi ht hP htt ht0
  have O : Hid (IsHx w a len L) := o
  have lsz := o.size
  clear o
  go_enter Try.func4, Try.ntmps4
  go_wp2_with fail
  refine (NP _).mono ?_
  rintro e w1 ⟨⟨p, rfl, lp, hp⟩, b1⟩
  go_wp2_with fail
  refine (NU _).mono ?_
  rintro e w2 ⟨⟨q, rfl, lq, hq⟩, b2⟩
  have B2 : Below w.heap.size w w2 := Below.andThen b1 b2
  have LP : Hid (w.heap.size ≤ p ∧ w.heap.size ≤ q) := ⟨lp, by have := b1.size; omega⟩
  have PR : Hid (CPair w2 p q id top P ⟨false, 0, 0, 0, 0⟩) := ⟨blk11 b2 hp, hq⟩
  clear hp hq b1 b2 lp lq NP NU
  go_wp2_with fail
  go_loopw [15] (fun u wr => ∃ i : Nat, i ≤ len ∧ u = .int .i64 i ∧ Below w.heap.size w wr ∧ ∃ c : Cst, c.Ok top ∧ (0 ≤ c.lo ∧ c.lo ≤ 240 * (i : Int)) ∧ (0 ≤ c.wr ∧ c.wr ≤ (i : Int)) ∧ CPair wr p q id top P c) (fun u _ => len - (intOf u).toNat)
  case atStart => exact ⟨0, Nat.zero_le _, rfl, B2, ⟨false, 0, 0, 0, 0⟩, ⟨Int.le_refl _, by decide, fun h => by cases h⟩, ⟨Int.le_refl _, by decide⟩, ⟨Int.le_refl _, by decide⟩, PR.out⟩
  case round =>
    clear PR B2
    obtain ⟨i, hil, rfl, B, c, hc0, hlo0, hwr0, PR0⟩ := hrel
    have PR : Hid (CPair wr p q id top P c) := PR0
    have CO : Hid (c.Ok top ∧ (0 ≤ c.lo ∧ c.lo ≤ 240 * (i : Int)) ∧ (0 ≤ c.wr ∧ c.wr ≤ (i : Int))) := ⟨hc0, hlo0, hwr0⟩
    clear PR0 hc0 hlo0 hwr0
    by_cases hlt : i < len
    rotate_left
    · have g1 : ¬ (i : Int) < (len : Int) := by omega
      go_wp2_with fail
      refine (works_any _).mono ?_
      rintro e w' ⟨rfl, hb⟩
      go_wp2_with fail
      go_ret
      exact ⟨rfl, Below.andThen B hb⟩
    have g1 : (i : Int) < (len : Int) := by omega
    obtain ⟨x, hx⟩ : ∃ x, L[i]? = some x := ⟨L[i]'(by omega), List.getElem?_eq_getElem _⟩
    have oct := O.out.good x (List.mem_of_getElem? hx)
    obtain ⟨b, off, e2, hc⟩ := (O.out.next B).at_ (by omega)
    have lb : b < w.heap.size := by
      obtain ⟨b', off', e3, hc'⟩ := O.out.at_ (by omega)
      rw [e2] at e3; cases e3
      exact block_lt_of_cell (hc' i x hx 0 _ rfl)
    have LB : Hid (b < w.heap.size) := lb
    clear lb
    subst e2
    obtain ⟨fi, fn, d0, d1, d2, d3, d4, d5, d6, d7, fr, now⟩ := x
    have hb0 : 0 ≤ d0 ∧ d0 < 256 := oct d0 (by simp)
    clear oct
    have c0 : wr.cell? ⟨b, off + i * 12, none⟩ = some (.int .u16 fi) := hc i _ hx 0 _ rfl
    have c1 : wr.cell? ⟨b, off + i * 12 + 1, none⟩ = some (.int .i64 fn) := hc i _ hx 1 _ rfl
    have c2 : wr.cell? ⟨b, off + i * 12 + 2, none⟩ = some (.int .u8 d0) := hc i _ hx 2 _ rfl
    have c3 : wr.cell? ⟨b, off + i * 12 + 3, none⟩ = some (.int .u8 d1) := hc i _ hx 3 _ rfl
    have c4 : wr.cell? ⟨b, off + i * 12 + 4, none⟩ = some (.int .u8 d2) := hc i _ hx 4 _ rfl
    have c5 : wr.cell? ⟨b, off + i * 12 + 5, none⟩ = some (.int .u8 d3) := hc i _ hx 5 _ rfl
    have c6 : wr.cell? ⟨b, off + i * 12 + 6, none⟩ = some (.int .u8 d4) := hc i _ hx 6 _ rfl
    have c7 : wr.cell? ⟨b, off + i * 12 + 7, none⟩ = some (.int .u8 d5) := hc i _ hx 7 _ rfl
    have c8 : wr.cell? ⟨b, off + i * 12 + 8, none⟩ = some (.int .u8 d6) := hc i _ hx 8 _ rfl
    have c9 : wr.cell? ⟨b, off + i * 12 + 9, none⟩ = some (.int .u8 d7) := hc i _ hx 9 _ rfl
    have c10 : wr.cell? ⟨b, off + i * 12 + 10, none⟩ = some (.bool fr) := hc i _ hx 10 _ rfl
    have c11 : wr.cell? ⟨b, off + i * 12 + 11, none⟩ = some (.int .i64 now) := hc i _ hx 11 _ rfl
    have lbr : b < wr.heap.size := block_lt_of_cell c0
    clear hc
    obtain ⟨ex, ok, c', hc', hlo', hwr', HEP, HEU⟩ := hear_two p q id top P c fi fn d0 d1 d2 d3 d4 d5 d6 d7 fr now CO.out.1 AR.out.1 AR.out.2.1 AR.out.2.2.1 hb0 (by have h1 := CO.out.2.1; have h2 := AR.out.2.2.2; omega) (by have h1 := CO.out.2.2; have h2 := AR.out.2.2.2; omega)
    have HP : Hid (HearsP p id top P c fi fn d0 d1 d2 d3 d4 d5 d6 d7 fr now ex ok c') := HEP
    have HU : Hid (HearsU q id top P c fi fn d0 d1 d2 d3 d4 d5 d6 d7 fr now ex ok c') := HEU
    have CO2 : Hid (c'.Ok top ∧ (0 ≤ c'.lo ∧ c'.lo ≤ 240 * ((i + 1 : Nat) : Int)) ∧ (0 ≤ c'.wr ∧ c'.wr ≤ ((i + 1 : Nat) : Int))) := ⟨hc', ⟨hlo'.1, by have h1 := CO.out.2.1; rw [Int.natCast_add]; omega⟩, ⟨hwr'.1, by have h1 := CO.out.2.2; rw [Int.natCast_add]; omega⟩⟩
    clear hc' hlo' hwr' HEP HEU hb0 CO
    go_wp2_with fail
    refine wp_region_held_drew (S := fun x => Below w.heap.size w x ∧ x.cell? ⟨b, off + i * 12, none⟩ = some (.int .u16 fi) ∧ x.cell? ⟨b, off + i * 12 + 1, none⟩ = some (.int .i64 fn) ∧ x.cell? ⟨b, off + i * 12 + 2, none⟩ = some (.int .u8 d0) ∧ x.cell? ⟨b, off + i * 12 + 3, none⟩ = some (.int .u8 d1) ∧ x.cell? ⟨b, off + i * 12 + 4, none⟩ = some (.int .u8 d2) ∧ x.cell? ⟨b, off + i * 12 + 5, none⟩ = some (.int .u8 d3) ∧ x.cell? ⟨b, off + i * 12 + 6, none⟩ = some (.int .u8 d4) ∧ x.cell? ⟨b, off + i * 12 + 7, none⟩ = some (.int .u8 d5) ∧ x.cell? ⟨b, off + i * 12 + 8, none⟩ = some (.int .u8 d6) ∧ x.cell? ⟨b, off + i * 12 + 9, none⟩ = some (.int .u8 d7) ∧ x.cell? ⟨b, off + i * 12 + 10, none⟩ = some (.bool fr) ∧ x.cell? ⟨b, off + i * 12 + 11, none⟩ = some (.int .i64 now)) (by kernel_rfl) (⟨Below.drew B, c0, c1, c2, c3, c4, c5, c6, c7, c8, c9, c10, c11⟩) (fun hHeld => ?_)
    refine tk 0 (.pointer (some ⟨p, 0, none⟩)) rfl (.inl ⟨by rfl, ?_⟩) ?_
    · intro w9 hSw
      try dsimp only at hSw
      go_simp
      all_goals try decide
      all_goals try assumption
      all_goals try omega
    try simp only [Act.put, gA, gS, gZ, sA, sZ, sS]
    refine tk 1 (.slice (some ⟨b, off, none⟩) len cap) rfl (.inl ⟨by rfl, ?_⟩) ?_
    · intro w9 hSw
      try dsimp only at hSw
      go_simp
      all_goals try decide
      all_goals try assumption
      all_goals try omega
    try simp only [Act.put, gA, gS, gZ, sA, sZ, sS]
    refine tk 2 (.int .i64 (i : Int)) rfl (.inl ⟨by rfl, ?_⟩) ?_
    · intro w9 hSw
      try dsimp only at hSw
      go_simp
      all_goals try decide
      all_goals try assumption
      all_goals try omega
    try simp only [Act.put, gA, gS, gZ, sA, sZ, sS]
    refine tk 3 (.pointer (some ⟨b, off + i * 12, none⟩)) rfl (.inl ⟨by rfl, ?_⟩) ?_
    · intro w9 hSw
      try dsimp only at hSw
      go_simp
      all_goals try decide
      all_goals try assumption
      all_goals try omega
    try simp only [Act.put, gA, gS, gZ, sA, sZ, sS]
    refine tk 4 (.pointer (some ⟨b, off + i * 12, none⟩)) rfl (.inl ⟨by rfl, ?_⟩) ?_
    · intro w9 hSw
      try dsimp only at hSw
      go_simp
      all_goals try decide
      all_goals try assumption
      all_goals try omega
    try simp only [Act.put, gA, gS, gZ, sA, sZ, sS]
    refine tk 5 (frV fi fn d0 d1 d2 d3 d4 d5 d6 d7 fr) rfl (.inl ⟨by rfl, ?_⟩) ?_
    · intro w9 hSw
      try dsimp only at hSw
      go_simp
      all_goals try decide
      all_goals try assumption
      all_goals try omega
    try simp only [Act.put, gA, gS, gZ, sA, sZ, sS]
    refine tk 6 (.slice (some ⟨b, off, none⟩) len cap) rfl (.inl ⟨by rfl, ?_⟩) ?_
    · intro w9 hSw
      try dsimp only at hSw
      go_simp
      all_goals try decide
      all_goals try assumption
      all_goals try omega
    try simp only [Act.put, gA, gS, gZ, sA, sZ, sS]
    refine tk 7 (.int .i64 (i : Int)) rfl (.inl ⟨by rfl, ?_⟩) ?_
    · intro w9 hSw
      try dsimp only at hSw
      go_simp
      all_goals try decide
      all_goals try assumption
      all_goals try omega
    try simp only [Act.put, gA, gS, gZ, sA, sZ, sS]
    refine tk 8 (.pointer (some ⟨b, off + i * 12, none⟩)) rfl (.inl ⟨by rfl, ?_⟩) ?_
    · intro w9 hSw
      try dsimp only at hSw
      go_simp
      all_goals try decide
      all_goals try assumption
      all_goals try omega
    try simp only [Act.put, gA, gS, gZ, sA, sZ, sS]
    refine tk 9 (.pointer (some ⟨b, off + i * 12 + 11, none⟩)) rfl (.inl ⟨by rfl, ?_⟩) ?_
    · intro w9 hSw
      try dsimp only at hSw
      go_simp
      all_goals try decide
      all_goals try assumption
      all_goals try omega
    try simp only [Act.put, gA, gS, gZ, sA, sZ, sS]
    refine tk 10 (.int .i64 now) rfl (.inl ⟨by rfl, ?_⟩) ?_
    · intro w9 hSw
      try dsimp only at hSw
      go_simp
      all_goals try decide
      all_goals try assumption
      all_goals try omega
    try simp only [Act.put, gA, gS, gZ, sA, sZ, sS]
    refine wpAnyH_ready (rs := [11]) (by kernel_rfl) (by simp) ?_
    refine AllReadyH.cons rfl (fun K' hK => ?_) AllReadyH.nil
    rw [if_pos (by rfl)]
    simp only [gA, gS, gZ]
    obtain ⟨S0, S1, S2, S3, S4, S5, S6, S7, S8, S9, S10, S11, S12⟩ := hHeld
    go_wp2_with fail
    refine (HP.out _ (PR.out.next (Below.drew (Below.refl _ _))).hp).mono ?_
    rintro e w3 ⟨rfl, hp3, k3⟩
    try go_wp2_with fail
    have hq3 := Kp.at k3 (j := q) (by have := PR.out.ne; simp; omega) (PR.out.next (Below.drew (Below.refl _ _))).hq
    refine hK.out _ _ (⟨Kp.below S0 k3 S0.size (by intro j hj; have := LP.out; simp at hj; omega), Kp.cell k3 S1 (by have := LP.out; have := LB.out; simp; omega), Kp.cell k3 S2 (by have := LP.out; have := LB.out; simp; omega), Kp.cell k3 S3 (by have := LP.out; have := LB.out; simp; omega), Kp.cell k3 S4 (by have := LP.out; have := LB.out; simp; omega), Kp.cell k3 S5 (by have := LP.out; have := LB.out; simp; omega), Kp.cell k3 S6 (by have := LP.out; have := LB.out; simp; omega), Kp.cell k3 S7 (by have := LP.out; have := LB.out; simp; omega), Kp.cell k3 S8 (by have := LP.out; have := LB.out; simp; omega), Kp.cell k3 S9 (by have := LP.out; have := LB.out; simp; omega), Kp.cell k3 S10 (by have := LP.out; have := LB.out; simp; omega), Kp.cell k3 S11 (by have := LP.out; have := LB.out; simp; omega), Kp.cell k3 S12 (by have := LP.out; have := LB.out; simp; omega)⟩) (fun hHeld => ?_)
    clear hK K'
    try simp only [Act.put, gA, gS, gZ, sA, sZ, sS]
    refine tk 12 (.tuple #[.int .u8 ex, .bool ok]) rfl (.inl ⟨by rfl, ?_⟩) ?_
    · intro w9 hSw
      try dsimp only at hSw
      go_simp
      all_goals try decide
      all_goals try assumption
      all_goals try omega
    try simp only [Act.put, gA, gS, gZ, sA, sZ, sS]
    refine tk 13 (.int .u8 ex) rfl (.inl ⟨by rfl, ?_⟩) ?_
    · intro w9 hSw
      try dsimp only at hSw
      go_simp
      all_goals try decide
      all_goals try assumption
      all_goals try omega
    try simp only [Act.put, gA, gS, gZ, sA, sZ, sS]
    refine tk 14 (.bool ok) rfl (.inl ⟨by rfl, ?_⟩) ?_
    · intro w9 hSw
      try dsimp only at hSw
      go_simp
      all_goals try decide
      all_goals try assumption
      all_goals try omega
    try simp only [Act.put, gA, gS, gZ, sA, sZ, sS]
    refine tk 15 (.int .u8 ex) rfl (.inl ⟨by rfl, ?_⟩) ?_
    · intro w9 hSw
      try dsimp only at hSw
      go_simp
      all_goals try decide
      all_goals try assumption
      all_goals try omega
    try simp only [Act.put, gA, gS, gZ, sA, sZ, sS]
    refine tk 16 (.bool ok) rfl (.inl ⟨by rfl, ?_⟩) ?_
    · intro w9 hSw
      try dsimp only at hSw
      go_simp
      all_goals try decide
      all_goals try assumption
      all_goals try omega
    try simp only [Act.put, gA, gS, gZ, sA, sZ, sS]
    refine wpAnyH_done (by kernel_rfl) ?_ _
    obtain ⟨T0, T1, T2, T3, T4, T5, T6, T7, T8, T9, T10, T11, T12⟩ := hHeld
    have lb3 : b < w3.heap.size := block_lt_of_cell T1
    go_wp2_with fail
    refine wp_region_held_drew (S := fun x => Below w.heap.size w x ∧ x.cell? ⟨b, off + i * 12, none⟩ = some (.int .u16 fi) ∧ x.cell? ⟨b, off + i * 12 + 1, none⟩ = some (.int .i64 fn) ∧ x.cell? ⟨b, off + i * 12 + 2, none⟩ = some (.int .u8 d0) ∧ x.cell? ⟨b, off + i * 12 + 3, none⟩ = some (.int .u8 d1) ∧ x.cell? ⟨b, off + i * 12 + 4, none⟩ = some (.int .u8 d2) ∧ x.cell? ⟨b, off + i * 12 + 5, none⟩ = some (.int .u8 d3) ∧ x.cell? ⟨b, off + i * 12 + 6, none⟩ = some (.int .u8 d4) ∧ x.cell? ⟨b, off + i * 12 + 7, none⟩ = some (.int .u8 d5) ∧ x.cell? ⟨b, off + i * 12 + 8, none⟩ = some (.int .u8 d6) ∧ x.cell? ⟨b, off + i * 12 + 9, none⟩ = some (.int .u8 d7) ∧ x.cell? ⟨b, off + i * 12 + 10, none⟩ = some (.bool fr) ∧ x.cell? ⟨b, off + i * 12 + 11, none⟩ = some (.int .i64 now)) (by kernel_rfl) (⟨Below.drew T0, T1, T2, T3, T4, T5, T6, T7, T8, T9, T10, T11, T12⟩) (fun hHeld => ?_)
    refine tk 0 (.pointer (some ⟨q, 0, none⟩)) rfl (.inl ⟨by rfl, ?_⟩) ?_
    · intro w9 hSw
      try dsimp only at hSw
      go_simp
      all_goals try decide
      all_goals try assumption
      all_goals try omega
    try simp only [Act.put, gA, gS, gZ, sA, sZ, sS]
    refine tk 1 (.slice (some ⟨b, off, none⟩) len cap) rfl (.inl ⟨by rfl, ?_⟩) ?_
    · intro w9 hSw
      try dsimp only at hSw
      go_simp
      all_goals try decide
      all_goals try assumption
      all_goals try omega
    try simp only [Act.put, gA, gS, gZ, sA, sZ, sS]
    refine tk 2 (.int .i64 (i : Int)) rfl (.inl ⟨by rfl, ?_⟩) ?_
    · intro w9 hSw
      try dsimp only at hSw
      go_simp
      all_goals try decide
      all_goals try assumption
      all_goals try omega
    try simp only [Act.put, gA, gS, gZ, sA, sZ, sS]
    refine tk 3 (.pointer (some ⟨b, off + i * 12, none⟩)) rfl (.inl ⟨by rfl, ?_⟩) ?_
    · intro w9 hSw
      try dsimp only at hSw
      go_simp
      all_goals try decide
      all_goals try assumption
      all_goals try omega
    try simp only [Act.put, gA, gS, gZ, sA, sZ, sS]
    refine tk 4 (.pointer (some ⟨b, off + i * 12, none⟩)) rfl (.inl ⟨by rfl, ?_⟩) ?_
    · intro w9 hSw
      try dsimp only at hSw
      go_simp
      all_goals try decide
      all_goals try assumption
      all_goals try omega
    try simp only [Act.put, gA, gS, gZ, sA, sZ, sS]
    refine tk 5 (frV fi fn d0 d1 d2 d3 d4 d5 d6 d7 fr) rfl (.inl ⟨by rfl, ?_⟩) ?_
    · intro w9 hSw
      try dsimp only at hSw
      go_simp
      all_goals try decide
      all_goals try assumption
      all_goals try omega
    try simp only [Act.put, gA, gS, gZ, sA, sZ, sS]
    refine tk 6 (.slice (some ⟨b, off, none⟩) len cap) rfl (.inl ⟨by rfl, ?_⟩) ?_
    · intro w9 hSw
      try dsimp only at hSw
      go_simp
      all_goals try decide
      all_goals try assumption
      all_goals try omega
    try simp only [Act.put, gA, gS, gZ, sA, sZ, sS]
    refine tk 7 (.int .i64 (i : Int)) rfl (.inl ⟨by rfl, ?_⟩) ?_
    · intro w9 hSw
      try dsimp only at hSw
      go_simp
      all_goals try decide
      all_goals try assumption
      all_goals try omega
    try simp only [Act.put, gA, gS, gZ, sA, sZ, sS]
    refine tk 8 (.pointer (some ⟨b, off + i * 12, none⟩)) rfl (.inl ⟨by rfl, ?_⟩) ?_
    · intro w9 hSw
      try dsimp only at hSw
      go_simp
      all_goals try decide
      all_goals try assumption
      all_goals try omega
    try simp only [Act.put, gA, gS, gZ, sA, sZ, sS]
    refine tk 9 (.pointer (some ⟨b, off + i * 12 + 11, none⟩)) rfl (.inl ⟨by rfl, ?_⟩) ?_
    · intro w9 hSw
      try dsimp only at hSw
      go_simp
      all_goals try decide
      all_goals try assumption
      all_goals try omega
    try simp only [Act.put, gA, gS, gZ, sA, sZ, sS]
    refine tk 10 (.int .i64 now) rfl (.inl ⟨by rfl, ?_⟩) ?_
    · intro w9 hSw
      try dsimp only at hSw
      go_simp
      all_goals try decide
      all_goals try assumption
      all_goals try omega
    try simp only [Act.put, gA, gS, gZ, sA, sZ, sS]
    refine wpAnyH_ready (rs := [11]) (by kernel_rfl) (by simp) ?_
    refine AllReadyH.cons rfl (fun K' hK => ?_) AllReadyH.nil
    rw [if_pos (by rfl)]
    simp only [gA, gS, gZ]
    obtain ⟨S0, S1, S2, S3, S4, S5, S6, S7, S8, S9, S10, S11, S12⟩ := hHeld
    go_wp2_with fail
    refine (HU.out _ (blk11 (Below.drew (Below.refl _ _)) hq3)).mono ?_
    rintro e w4 ⟨rfl, hq4, k4⟩
    try go_wp2_with fail
    have hp4 := Kp.at k4 (j := p) (by have := PR.out.ne; simp; omega) (blk11 (Below.drew (Below.refl _ _)) hp3)
    refine hK.out _ _ (⟨Kp.below S0 k4 S0.size (by intro j hj; have := LP.out; simp at hj; omega), Kp.cell k4 S1 (by have := LP.out; have := LB.out; simp; omega), Kp.cell k4 S2 (by have := LP.out; have := LB.out; simp; omega), Kp.cell k4 S3 (by have := LP.out; have := LB.out; simp; omega), Kp.cell k4 S4 (by have := LP.out; have := LB.out; simp; omega), Kp.cell k4 S5 (by have := LP.out; have := LB.out; simp; omega), Kp.cell k4 S6 (by have := LP.out; have := LB.out; simp; omega), Kp.cell k4 S7 (by have := LP.out; have := LB.out; simp; omega), Kp.cell k4 S8 (by have := LP.out; have := LB.out; simp; omega), Kp.cell k4 S9 (by have := LP.out; have := LB.out; simp; omega), Kp.cell k4 S10 (by have := LP.out; have := LB.out; simp; omega), Kp.cell k4 S11 (by have := LP.out; have := LB.out; simp; omega), Kp.cell k4 S12 (by have := LP.out; have := LB.out; simp; omega)⟩) (fun hHeld => ?_)
    clear hK K'
    try simp only [Act.put, gA, gS, gZ, sA, sZ, sS]
    refine tk 12 (.tuple #[.int .u8 ex, .bool ok]) rfl (.inl ⟨by rfl, ?_⟩) ?_
    · intro w9 hSw
      try dsimp only at hSw
      go_simp
      all_goals try decide
      all_goals try assumption
      all_goals try omega
    try simp only [Act.put, gA, gS, gZ, sA, sZ, sS]
    refine tk 13 (.int .u8 ex) rfl (.inl ⟨by rfl, ?_⟩) ?_
    · intro w9 hSw
      try dsimp only at hSw
      go_simp
      all_goals try decide
      all_goals try assumption
      all_goals try omega
    try simp only [Act.put, gA, gS, gZ, sA, sZ, sS]
    refine tk 14 (.bool ok) rfl (.inl ⟨by rfl, ?_⟩) ?_
    · intro w9 hSw
      try dsimp only at hSw
      go_simp
      all_goals try decide
      all_goals try assumption
      all_goals try omega
    try simp only [Act.put, gA, gS, gZ, sA, sZ, sS]
    refine tk 15 (.int .u8 ex) rfl (.inl ⟨by rfl, ?_⟩) ?_
    · intro w9 hSw
      try dsimp only at hSw
      go_simp
      all_goals try decide
      all_goals try assumption
      all_goals try omega
    try simp only [Act.put, gA, gS, gZ, sA, sZ, sS]
    refine tk 16 (.bool ok) rfl (.inl ⟨by rfl, ?_⟩) ?_
    · intro w9 hSw
      try dsimp only at hSw
      go_simp
      all_goals try decide
      all_goals try assumption
      all_goals try omega
    try simp only [Act.put, gA, gS, gZ, sA, sZ, sS]
    refine wpAnyH_done (by kernel_rfl) ?_ _
    obtain ⟨T0, T1, T2, T3, T4, T5, T6, T7, T8, T9, T10, T11, T12⟩ := hHeld
    have lb4 : b < w4.heap.size := block_lt_of_cell T1
    have PR2 : Hid (CPair w4 p q id top P c') := ⟨hp4, hq4⟩
    have OP : Hid (∀ (t : Int) (X : World), Below w4.heap.size w4 X → Calls Try.prog 24 #[.pointer (some ⟨p, 0, none⟩), .int .i64 t] X fun e w' => e = .returned (.bool (opB P c'.hd c'.a t)) ∧ Below X.heap.size X w') := fun t X hX => open_all p id top P _ _ _ _ _ t (by have := CO2.out.1.a0; omega) CO2.out.1.a1 X (blk11 hX PR2.out.hp)
    have OU : Hid (∀ (t : Int) (X : World), Below w4.heap.size w4 X → Calls Try.prog 25 #[.pointer (some ⟨q, 0, none⟩), .int .i64 t] X fun e w' => e = .returned (.bool (opB P c'.hd c'.a t)) ∧ Below X.heap.size X w') := fun t X hX => vopen_all q id top P _ _ _ _ _ t (by have := CO2.out.1.a0; omega) CO2.out.1.a1 X (blk11 hX PR2.out.hq)
    have LO : Hid (∀ (X : World), Below w4.heap.size w4 X → Calls Try.prog 22 #[.pointer (some ⟨p, 0, none⟩)] X fun e w' => e = .returned (.int .i64 c'.lo) ∧ w' = X) := fun X hX => lost_any p _ X (by rw [cell_of_row X _ 6 _ _ _ (blk11 hX PR2.out.hp)]; rfl)
    have WO : Hid (∀ (X : World), Below w4.heap.size w4 X → Calls Try.prog 23 #[.pointer (some ⟨p, 0, none⟩)] X fun e w' => e = .returned (.int .i64 c'.wr) ∧ w' = X) := fun X hX => wrong_any p _ X (by rw [cell_of_row X _ 7 _ _ _ (blk11 hX PR2.out.hp)]; rfl)
    obtain ⟨on, hon⟩ : ∃ v, v = opB P c'.hd c'.a now := ⟨_, rfl⟩
    obtain ⟨oa, hoa⟩ : ∃ v, v = opB P c'.hd c'.a ask := ⟨_, rfl⟩
    have OPn : Hid (∀ (X : World), Below w4.heap.size w4 X → Calls Try.prog 24 #[.pointer (some ⟨p, 0, none⟩), .int .i64 now] X fun e w' => e = .returned (.bool on) ∧ Below X.heap.size X w') := fun X hX => by rw [hon]; exact OP.out now X hX
    have OUn : Hid (∀ (X : World), Below w4.heap.size w4 X → Calls Try.prog 25 #[.pointer (some ⟨q, 0, none⟩), .int .i64 now] X fun e w' => e = .returned (.bool on) ∧ Below X.heap.size X w') := fun X hX => by rw [hon]; exact OU.out now X hX
    have OPa : Hid (∀ (X : World), Below w4.heap.size w4 X → Calls Try.prog 24 #[.pointer (some ⟨p, 0, none⟩), .int .i64 ask] X fun e w' => e = .returned (.bool oa) ∧ Below X.heap.size X w') := fun X hX => by rw [hoa]; exact OP.out ask X hX
    have OUa : Hid (∀ (X : World), Below w4.heap.size w4 X → Calls Try.prog 25 #[.pointer (some ⟨q, 0, none⟩), .int .i64 ask] X fun e w' => e = .returned (.bool oa) ∧ Below X.heap.size X w') := fun X hX => by rw [hoa]; exact OU.out ask X hX
    clear hon hoa OP OU
    obtain ⟨lo', hlo⟩ : ∃ v, v = c'.lo := ⟨_, rfl⟩
    obtain ⟨wn', hwn⟩ : ∃ v, v = c'.wr := ⟨_, rfl⟩
    rw [← hlo] at LO
    rw [← hwn] at WO
    have q6 : w4.cell? ⟨q, 6, none⟩ = some (.int .i64 lo') := by rw [hlo, cell_of_row w4 _ 6 _ _ _ PR2.out.hq]; rfl
    have q7 : w4.cell? ⟨q, 7, none⟩ = some (.int .i64 wn') := by rw [hwn, cell_of_row w4 _ 7 _ _ _ PR2.out.hq]; rfl
    clear hlo hwn
    have NEW : Hid (∀ X, Below w4.heap.size w4 X → ∃ c : Cst, c.Ok top ∧ (0 ≤ c.lo ∧ c.lo ≤ 240 * ((i + 1 : Nat) : Int)) ∧ (0 ≤ c.wr ∧ c.wr ≤ ((i + 1 : Nat) : Int)) ∧ CPair X p q id top P c) := fun X hX => ⟨c', CO2.out.1, CO2.out.2.1, CO2.out.2.2, PR2.out.next hX⟩
    clear PR2 CO2 hp3 hq3 hp4 hq4 k3 k4 HP HU PR B c0 c1 c2 c3 c4 c5 c6 c7 c8 c9 c10 c11
    go_wp2_with fail
    refine wp_region_held_drew (S := fun x => (Below w.heap.size w x ∧ Below w4.heap.size w4 x) ∧ x.cell? ⟨b, off + i * 12 + 11, none⟩ = some (.int .i64 now) ∧ x.cell? ⟨q, 6, none⟩ = some (.int .i64 lo') ∧ x.cell? ⟨q, 7, none⟩ = some (.int .i64 wn')) (by kernel_rfl) (⟨⟨Below.drew T0, Below.drew (Below.refl _ _)⟩, T12, q6, q7⟩) (fun hHeld => ?_)
    refine tk 0 (.int .u8 ex) rfl (.inl ⟨by rfl, ?_⟩) ?_
    · intro w9 hSw
      try dsimp only at hSw
      go_simp
      all_goals try decide
      all_goals try assumption
      all_goals try omega
    try simp only [Act.put, gA, gS, gZ, sA, sZ, sS]
    refine tk 1 (.int .u8 ex) rfl (.inl ⟨by rfl, ?_⟩) ?_
    · intro w9 hSw
      try dsimp only at hSw
      go_simp
      all_goals try decide
      all_goals try assumption
      all_goals try omega
    try simp only [Act.put, gA, gS, gZ, sA, sZ, sS]
    refine tk 2 (.bool false) rfl (.inl ⟨by rfl, ?_⟩) ?_
    · intro w9 hSw
      try dsimp only at hSw
      go_simp
      all_goals try decide
      all_goals try assumption
      all_goals try omega
    try simp only [Act.put, gA, gS, gZ, sA, sZ, sS]
    refine tk 3 (.bool false) rfl (.inl ⟨by rfl, ?_⟩) ?_
    · intro w9 hSw
      try dsimp only at hSw
      go_simp
      all_goals try decide
      all_goals try assumption
      all_goals try omega
    try simp only [Act.put, gA, gS, gZ, sA, sZ, sS]
    refine tk 4 (.bool ok) rfl (.inl ⟨by rfl, ?_⟩) ?_
    · intro w9 hSw
      try dsimp only at hSw
      go_simp
      all_goals try decide
      all_goals try assumption
      all_goals try omega
    try simp only [Act.put, gA, gS, gZ, sA, sZ, sS]
    refine tk 5 (.bool ok) rfl (.inl ⟨by rfl, ?_⟩) ?_
    · intro w9 hSw
      try dsimp only at hSw
      go_simp
      all_goals try decide
      all_goals try assumption
      all_goals try omega
    try simp only [Act.put, gA, gS, gZ, sA, sZ, sS]
    refine tk 6 (.bool false) rfl (.inl ⟨by rfl, ?_⟩) ?_
    · intro w9 hSw
      try dsimp only at hSw
      go_simp
      all_goals try decide
      all_goals try assumption
      all_goals try omega
    try simp only [Act.put, gA, gS, gZ, sA, sZ, sS]
    refine tk 7 (.bool false) rfl (.inl ⟨by rfl, ?_⟩) ?_
    · intro w9 hSw
      try dsimp only at hSw
      go_simp
      all_goals try decide
      all_goals try assumption
      all_goals try omega
    try simp only [Act.put, gA, gS, gZ, sA, sZ, sS]
    refine tk 8 (.bool false) rfl (.inl ⟨by rfl, ?_⟩) ?_
    · intro w9 hSw
      try dsimp only at hSw
      go_simp
      all_goals try decide
      all_goals try assumption
      all_goals try omega
    try simp only [Act.put, gA, gS, gZ, sA, sZ, sS]
    refine tk 9 (.pointer (some ⟨p, 0, none⟩)) rfl (.inl ⟨by rfl, ?_⟩) ?_
    · intro w9 hSw
      try dsimp only at hSw
      go_simp
      all_goals try decide
      all_goals try assumption
      all_goals try omega
    try simp only [Act.put, gA, gS, gZ, sA, sZ, sS]
    refine tk 11 (.pointer (some ⟨q, 0, none⟩)) rfl (.inl ⟨by rfl, ?_⟩) ?_
    · intro w9 hSw
      try dsimp only at hSw
      go_simp
      all_goals try decide
      all_goals try assumption
      all_goals try omega
    try simp only [Act.put, gA, gS, gZ, sA, sZ, sS]
    refine tk 12 (.pointer (some ⟨q, 0, none⟩)) rfl (.inl ⟨by rfl, ?_⟩) ?_
    · intro w9 hSw
      try dsimp only at hSw
      go_simp
      all_goals try decide
      all_goals try assumption
      all_goals try omega
    try simp only [Act.put, gA, gS, gZ, sA, sZ, sS]
    refine tk 13 (.pointer (some ⟨q, 6, none⟩)) rfl (.inl ⟨by rfl, ?_⟩) ?_
    · intro w9 hSw
      try dsimp only at hSw
      go_simp
      all_goals try decide
      all_goals try assumption
      all_goals try omega
    try simp only [Act.put, gA, gS, gZ, sA, sZ, sS]
    refine tk 14 (.int .i64 lo') rfl (.inl ⟨by rfl, ?_⟩) ?_
    · intro w9 hSw
      try dsimp only at hSw
      go_simp
      all_goals try decide
      all_goals try assumption
      all_goals try omega
    try simp only [Act.put, gA, gS, gZ, sA, sZ, sS]
    refine wpAnyH_ready (rs := [10]) (by kernel_rfl) (by simp) ?_
    refine AllReadyH.cons rfl (fun K' hK => ?_) AllReadyH.nil
    rw [if_pos (by rfl)]
    simp only [gA, gS, gZ]
    obtain ⟨⟨S0, SB⟩, S1, S2, S3⟩ := hHeld
    go_wp2_with fail
    refine (LO.out _ SB).mono ?_
    rintro e w5 ⟨rfl, rfl⟩
    try go_wp2_with fail
    refine hK.out _ _ (⟨⟨S0, SB⟩, S1, S2, S3⟩) (fun hHeld => ?_)
    clear hK K'
    try simp only [Act.put, gA, gS, gZ, sA, sZ, sS]
    refine tk 15 (.bool false) rfl (.inl ⟨by rfl, ?_⟩) ?_
    · intro w9 hSw
      try dsimp only at hSw
      go_simp
      all_goals try decide
      all_goals try assumption
      all_goals try omega
    try simp only [Act.put, gA, gS, gZ, sA, sZ, sS]
    refine tk 16 (.bool false) rfl (.inl ⟨by rfl, ?_⟩) ?_
    · intro w9 hSw
      try dsimp only at hSw
      go_simp
      all_goals try decide
      all_goals try assumption
      all_goals try omega
    try simp only [Act.put, gA, gS, gZ, sA, sZ, sS]
    refine tk 17 (.bool false) rfl (.inl ⟨by rfl, ?_⟩) ?_
    · intro w9 hSw
      try dsimp only at hSw
      go_simp
      all_goals try decide
      all_goals try assumption
      all_goals try omega
    try simp only [Act.put, gA, gS, gZ, sA, sZ, sS]
    refine tk 18 (.pointer (some ⟨p, 0, none⟩)) rfl (.inl ⟨by rfl, ?_⟩) ?_
    · intro w9 hSw
      try dsimp only at hSw
      go_simp
      all_goals try decide
      all_goals try assumption
      all_goals try omega
    try simp only [Act.put, gA, gS, gZ, sA, sZ, sS]
    refine tk 20 (.pointer (some ⟨q, 0, none⟩)) rfl (.inl ⟨by rfl, ?_⟩) ?_
    · intro w9 hSw
      try dsimp only at hSw
      go_simp
      all_goals try decide
      all_goals try assumption
      all_goals try omega
    try simp only [Act.put, gA, gS, gZ, sA, sZ, sS]
    refine tk 21 (.pointer (some ⟨q, 0, none⟩)) rfl (.inl ⟨by rfl, ?_⟩) ?_
    · intro w9 hSw
      try dsimp only at hSw
      go_simp
      all_goals try decide
      all_goals try assumption
      all_goals try omega
    try simp only [Act.put, gA, gS, gZ, sA, sZ, sS]
    refine tk 22 (.pointer (some ⟨q, 7, none⟩)) rfl (.inl ⟨by rfl, ?_⟩) ?_
    · intro w9 hSw
      try dsimp only at hSw
      go_simp
      all_goals try decide
      all_goals try assumption
      all_goals try omega
    try simp only [Act.put, gA, gS, gZ, sA, sZ, sS]
    refine tk 23 (.int .i64 wn') rfl (.inl ⟨by rfl, ?_⟩) ?_
    · intro w9 hSw
      try dsimp only at hSw
      go_simp
      all_goals try decide
      all_goals try assumption
      all_goals try omega
    try simp only [Act.put, gA, gS, gZ, sA, sZ, sS]
    refine wpAnyH_ready (rs := [19]) (by kernel_rfl) (by simp) ?_
    refine AllReadyH.cons rfl (fun K' hK => ?_) AllReadyH.nil
    rw [if_pos (by rfl)]
    simp only [gA, gS, gZ]
    obtain ⟨⟨S0, SB⟩, S1, S2, S3⟩ := hHeld
    go_wp2_with fail
    refine (WO.out _ SB).mono ?_
    rintro e w5 ⟨rfl, rfl⟩
    try go_wp2_with fail
    refine hK.out _ _ (⟨⟨S0, SB⟩, S1, S2, S3⟩) (fun hHeld => ?_)
    clear hK K'
    try simp only [Act.put, gA, gS, gZ, sA, sZ, sS]
    refine tk 24 (.bool false) rfl (.inl ⟨by rfl, ?_⟩) ?_
    · intro w9 hSw
      try dsimp only at hSw
      go_simp
      all_goals try decide
      all_goals try assumption
      all_goals try omega
    try simp only [Act.put, gA, gS, gZ, sA, sZ, sS]
    refine tk 25 (.bool false) rfl (.inl ⟨by rfl, ?_⟩) ?_
    · intro w9 hSw
      try dsimp only at hSw
      go_simp
      all_goals try decide
      all_goals try assumption
      all_goals try omega
    try simp only [Act.put, gA, gS, gZ, sA, sZ, sS]
    refine tk 26 (.bool false) rfl (.inl ⟨by rfl, ?_⟩) ?_
    · intro w9 hSw
      try dsimp only at hSw
      go_simp
      all_goals try decide
      all_goals try assumption
      all_goals try omega
    try simp only [Act.put, gA, gS, gZ, sA, sZ, sS]
    refine tk 27 (.pointer (some ⟨p, 0, none⟩)) rfl (.inl ⟨by rfl, ?_⟩) ?_
    · intro w9 hSw
      try dsimp only at hSw
      go_simp
      all_goals try decide
      all_goals try assumption
      all_goals try omega
    try simp only [Act.put, gA, gS, gZ, sA, sZ, sS]
    refine tk 28 (.slice (some ⟨b, off, none⟩) len cap) rfl (.inl ⟨by rfl, ?_⟩) ?_
    · intro w9 hSw
      try dsimp only at hSw
      go_simp
      all_goals try decide
      all_goals try assumption
      all_goals try omega
    try simp only [Act.put, gA, gS, gZ, sA, sZ, sS]
    refine tk 29 (.int .i64 (i : Int)) rfl (.inl ⟨by rfl, ?_⟩) ?_
    · intro w9 hSw
      try dsimp only at hSw
      go_simp
      all_goals try decide
      all_goals try assumption
      all_goals try omega
    try simp only [Act.put, gA, gS, gZ, sA, sZ, sS]
    refine tk 30 (.pointer (some ⟨b, off + i * 12, none⟩)) rfl (.inl ⟨by rfl, ?_⟩) ?_
    · intro w9 hSw
      try dsimp only at hSw
      go_simp
      all_goals try decide
      all_goals try assumption
      all_goals try omega
    try simp only [Act.put, gA, gS, gZ, sA, sZ, sS]
    refine tk 31 (.pointer (some ⟨b, off + i * 12 + 11, none⟩)) rfl (.inl ⟨by rfl, ?_⟩) ?_
    · intro w9 hSw
      try dsimp only at hSw
      go_simp
      all_goals try decide
      all_goals try assumption
      all_goals try omega
    try simp only [Act.put, gA, gS, gZ, sA, sZ, sS]
    refine tk 32 (.int .i64 now) rfl (.inl ⟨by rfl, ?_⟩) ?_
    · intro w9 hSw
      try dsimp only at hSw
      go_simp
      all_goals try decide
      all_goals try assumption
      all_goals try omega
    try simp only [Act.put, gA, gS, gZ, sA, sZ, sS]
    refine tk 34 (.pointer (some ⟨q, 0, none⟩)) rfl (.inl ⟨by rfl, ?_⟩) ?_
    · intro w9 hSw
      try dsimp only at hSw
      go_simp
      all_goals try decide
      all_goals try assumption
      all_goals try omega
    try simp only [Act.put, gA, gS, gZ, sA, sZ, sS]
    refine tk 35 (.slice (some ⟨b, off, none⟩) len cap) rfl (.inl ⟨by rfl, ?_⟩) ?_
    · intro w9 hSw
      try dsimp only at hSw
      go_simp
      all_goals try decide
      all_goals try assumption
      all_goals try omega
    try simp only [Act.put, gA, gS, gZ, sA, sZ, sS]
    refine tk 36 (.int .i64 (i : Int)) rfl (.inl ⟨by rfl, ?_⟩) ?_
    · intro w9 hSw
      try dsimp only at hSw
      go_simp
      all_goals try decide
      all_goals try assumption
      all_goals try omega
    try simp only [Act.put, gA, gS, gZ, sA, sZ, sS]
    refine tk 37 (.pointer (some ⟨b, off + i * 12, none⟩)) rfl (.inl ⟨by rfl, ?_⟩) ?_
    · intro w9 hSw
      try dsimp only at hSw
      go_simp
      all_goals try decide
      all_goals try assumption
      all_goals try omega
    try simp only [Act.put, gA, gS, gZ, sA, sZ, sS]
    refine tk 38 (.pointer (some ⟨b, off + i * 12 + 11, none⟩)) rfl (.inl ⟨by rfl, ?_⟩) ?_
    · intro w9 hSw
      try dsimp only at hSw
      go_simp
      all_goals try decide
      all_goals try assumption
      all_goals try omega
    try simp only [Act.put, gA, gS, gZ, sA, sZ, sS]
    refine tk 39 (.int .i64 now) rfl (.inl ⟨by rfl, ?_⟩) ?_
    · intro w9 hSw
      try dsimp only at hSw
      go_simp
      all_goals try decide
      all_goals try assumption
      all_goals try omega
    try simp only [Act.put, gA, gS, gZ, sA, sZ, sS]
    refine wpAnyH_ready (rs := [33]) (by kernel_rfl) (by simp) ?_
    refine AllReadyH.cons rfl (fun K' hK => ?_) AllReadyH.nil
    rw [if_pos (by rfl)]
    simp only [gA, gS, gZ]
    obtain ⟨⟨S0, SB⟩, S1, S2, S3⟩ := hHeld
    go_wp2_with fail
    refine (OPn.out _ SB).mono ?_
    rintro e v1 ⟨rfl, hbv1⟩
    try go_wp2_with fail
    refine hK.out _ _ (⟨⟨Below.andThen S0 hbv1, Below.andThen SB hbv1⟩, cl11 hbv1 S1, cl11 hbv1 S2, cl11 hbv1 S3⟩) (fun hHeld => ?_)
    clear hK K'
    try simp only [Act.put, gA, gS, gZ, sA, sZ, sS]
    refine wpAnyH_ready (rs := [40]) (by kernel_rfl) (by simp) ?_
    refine AllReadyH.cons rfl (fun K' hK => ?_) AllReadyH.nil
    rw [if_pos (by rfl)]
    simp only [gA, gS, gZ]
    obtain ⟨⟨S0, SB⟩, S1, S2, S3⟩ := hHeld
    go_wp2_with fail
    refine (OUn.out _ SB).mono ?_
    rintro e v2 ⟨rfl, hbv2⟩
    try go_wp2_with fail
    refine hK.out _ _ (⟨⟨Below.andThen S0 hbv2, Below.andThen SB hbv2⟩, cl11 hbv2 S1, cl11 hbv2 S2, cl11 hbv2 S3⟩) (fun hHeld => ?_)
    clear hK K'
    try simp only [Act.put, gA, gS, gZ, sA, sZ, sS]
    refine tk 41 (.bool false) rfl (.inl ⟨by rfl, ?_⟩) ?_
    · intro w9 hSw
      try dsimp only at hSw
      go_simp
      all_goals try decide
      all_goals try assumption
      all_goals try omega
    try simp only [Act.put, gA, gS, gZ, sA, sZ, sS]
    refine tk 42 (.bool false) rfl (.inl ⟨by rfl, ?_⟩) ?_
    · intro w9 hSw
      try dsimp only at hSw
      go_simp
      all_goals try decide
      all_goals try assumption
      all_goals try omega
    try simp only [Act.put, gA, gS, gZ, sA, sZ, sS]
    refine tk 43 (.bool false) rfl (.inl ⟨by rfl, ?_⟩) ?_
    · intro w9 hSw
      try dsimp only at hSw
      go_simp
      all_goals try decide
      all_goals try assumption
      all_goals try omega
    try simp only [Act.put, gA, gS, gZ, sA, sZ, sS]
    refine tk 44 (.pointer (some ⟨p, 0, none⟩)) rfl (.inl ⟨by rfl, ?_⟩) ?_
    · intro w9 hSw
      try dsimp only at hSw
      go_simp
      all_goals try decide
      all_goals try assumption
      all_goals try omega
    try simp only [Act.put, gA, gS, gZ, sA, sZ, sS]
    refine tk 45 (.int .i64 ask) rfl (.inl ⟨by rfl, ?_⟩) ?_
    · intro w9 hSw
      try dsimp only at hSw
      go_simp
      all_goals try decide
      all_goals try assumption
      all_goals try omega
    try simp only [Act.put, gA, gS, gZ, sA, sZ, sS]
    refine tk 47 (.pointer (some ⟨q, 0, none⟩)) rfl (.inl ⟨by rfl, ?_⟩) ?_
    · intro w9 hSw
      try dsimp only at hSw
      go_simp
      all_goals try decide
      all_goals try assumption
      all_goals try omega
    try simp only [Act.put, gA, gS, gZ, sA, sZ, sS]
    refine tk 48 (.int .i64 ask) rfl (.inl ⟨by rfl, ?_⟩) ?_
    · intro w9 hSw
      try dsimp only at hSw
      go_simp
      all_goals try decide
      all_goals try assumption
      all_goals try omega
    try simp only [Act.put, gA, gS, gZ, sA, sZ, sS]
    refine wpAnyH_ready (rs := [46]) (by kernel_rfl) (by simp) ?_
    refine AllReadyH.cons rfl (fun K' hK => ?_) AllReadyH.nil
    rw [if_pos (by rfl)]
    simp only [gA, gS, gZ]
    obtain ⟨⟨S0, SB⟩, S1, S2, S3⟩ := hHeld
    go_wp2_with fail
    refine (OPa.out _ SB).mono ?_
    rintro e v3 ⟨rfl, hbv3⟩
    try go_wp2_with fail
    refine hK.out _ _ (⟨⟨Below.andThen S0 hbv3, Below.andThen SB hbv3⟩, cl11 hbv3 S1, cl11 hbv3 S2, cl11 hbv3 S3⟩) (fun hHeld => ?_)
    clear hK K'
    try simp only [Act.put, gA, gS, gZ, sA, sZ, sS]
    refine wpAnyH_ready (rs := [49]) (by kernel_rfl) (by simp) ?_
    refine AllReadyH.cons rfl (fun K' hK => ?_) AllReadyH.nil
    rw [if_pos (by rfl)]
    simp only [gA, gS, gZ]
    obtain ⟨⟨S0, SB⟩, S1, S2, S3⟩ := hHeld
    go_wp2_with fail
    refine (OUa.out _ SB).mono ?_
    rintro e v4 ⟨rfl, hbv4⟩
    try go_wp2_with fail
    refine hK.out _ _ (⟨⟨Below.andThen S0 hbv4, Below.andThen SB hbv4⟩, cl11 hbv4 S1, cl11 hbv4 S2, cl11 hbv4 S3⟩) (fun hHeld => ?_)
    clear hK K'
    try simp only [Act.put, gA, gS, gZ, sA, sZ, sS]
    refine tk 50 (.bool false) rfl (.inl ⟨by rfl, ?_⟩) ?_
    · intro w9 hSw
      try dsimp only at hSw
      go_simp
      all_goals try decide
      all_goals try assumption
      all_goals try omega
    try simp only [Act.put, gA, gS, gZ, sA, sZ, sS]
    refine tk 51 (.bool false) rfl (.inl ⟨by rfl, ?_⟩) ?_
    · intro w9 hSw
      try dsimp only at hSw
      go_simp
      all_goals try decide
      all_goals try assumption
      all_goals try omega
    try simp only [Act.put, gA, gS, gZ, sA, sZ, sS]
    refine wpAnyH_done (by kernel_rfl) ?_ _
    have BF := hHeld.1.1
    have BN := hHeld.1.2
    clear hHeld
    go_wp2_with fail
    exact ⟨⟨i + 1, by omega, by go_num, BF, NEW.out _ BN⟩, by simp [intOf]; omega⟩

theorem syncConsumes_any (id P top : Int) (a : Option Addr) (len cap : Nat) (ask : Int) (L : List Hx) (w : World) (o : IsHx w a len L) (ht0 : 0 ≤ top) : Calls Try.prog 4 #[.int .u16 id, .int .i64 P, .int .u8 top, .slice a len cap, .int .i64 ask] w fun e w' => e = .returned (.bool true) ∧ Below w.heap.size w w' := by
  by_cases hl : 300 < len
  · exact consumes_many id P top a len cap ask w hl
  · cases h : ncB id P top with
    | false => exact consumes_bad id P top a len cap ask w (by omega) h
    | true => exact consumes_good id P top a len cap ask L w o (by omega) h ht0
#print axioms syncConsumes_any
end Go.Proofs.Ytlijkgkkoahajaa
