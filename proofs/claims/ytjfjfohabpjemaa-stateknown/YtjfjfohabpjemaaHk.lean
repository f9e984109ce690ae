/-
  The law StatePlays.
-/
import Derived.Test.YtjfjfohabpjemaaHj
namespace Go.Proofs.Ytjfjfohabpjemaa
open Go.RowKit

theorem ex_load_by {o : Oper} {a : Act} {w : World} (t : TypeId) (x : Operand) (ho : o.op = .load t x) (ad : Addr) (v : Value) (hx : a.eval x = .pointer (some ad)) (hr : (loadVar t ad).run Try.prog w = .ok v w) : (execOp a.eval o).run Try.prog w = .ok (.value v) w := by
  unfold execOp
  simp only [ho, hx, Instr.loadAt, Instr.sureAddr, Sem.run_bind, Sem.run_pure, Result.andThen_ok, hr]
/-- A machine and the document's, that stand the same. -/
structure Pr (w : World) (p q : Nat) (a s : Int) : Prop where
  hp : w.heap[p]? = some (.cells (maC a s) 57 (0, 0))
  hq : w.heap[q]? = some (.cells (maC a s) 30 (0, 0))
theorem Pr.ne {w : World} {p q : Nat} {a s : Int} (h : Pr w p q a s) : q ≠ p := by
  intro e; subst e; have := h.hp.symm.trans h.hq; simp at this
theorem Pr.next {w w' : World} {p q : Nat} {a s : Int} (h : Pr w p q a s) (hb : Below w.heap.size w w') : Pr w' p q a s := ⟨blk11 hb h.hp, blk11 hb h.hq⟩

/-- Are two changes the same? -/
def sameC (f t r g u x : Int) : Bool := f == g && (t == u && r == x)
set_option maxRecDepth 10000 in
theorem eqInC (w : World) (f t r g u x : Int) : (Op.equalIn 10000 43 (chV f t r) (chV g u x)).run Try.prog w = .ok (sameC f t r g u x) w := by
  have hp : Try.prog.stoodInHeld 43 = false := by kernel_rfl
  rw [run_equalIn_struct w 9999 _ _ _ (by simp [Program.fieldsOf, Try.underlying43]) hp]
  simp only [Program.fieldsOf, Try.underlying43, Op.eqFields]
  simp [go_sem, part, isAgg]
  unfold sameC
  by_cases h1 : f = g <;> by_cases h2 : t = u <;> by_cases h3 : r = x <;> simp [*]
theorem neqC (w : World) (f t r g u x : Int) : (binOp .neq 43 (chV f t r) (chV g u x)).run Try.prog w = .ok (.bool (!sameC f t r g u x)) w := by
  rw [run_neq_struct, eqInC]
  rfl

/-- What both tell of a frame that is heard, and the state behind it. -/
structure H2 (a s i n d0 d1 d2 d3 d4 d5 d6 d7 : Int) (r : Bool) (f t x : Int) (ok : Bool) (s' : Int) : Prop where
  bound : 0 ≤ s' ∧ s' < 256
  own : ∀ (W : World) (p : Nat), W.heap[p]? = some (.cells (maC a s) 57 (0, 0)) → Calls Try.prog 13 #[pt p, frV i n d0 d1 d2 d3 d4 d5 d6 d7 r] W fun e w' => e = .returned (.tuple #[chV f t x, .bool ok]) ∧ w'.heap[p]? = some (.cells (maC a s') 57 (0, 0)) ∧ Kp [p] W w'
  doc : ∀ (W : World) (p : Nat), W.heap[p]? = some (.cells (maC a s) 30 (0, 0)) → Calls Try.prog 14 #[pt p, frV i n d0 d1 d2 d3 d4 d5 d6 d7 r] W fun e w' => e = .returned (rcV f t x ok) ∧ w'.heap[p]? = some (.cells (maC a s') 30 (0, 0)) ∧ Kp [p] W w'
  what : (ok = false ∧ s' = s ∧ (cdB i n d0 d1 d2 d3 d4 d5 d6 d7 r && folB a s d1) = false) ∨ (ok = true ∧ f = s ∧ t = s' ∧ s' = toC d0 ∧ cdB i n d0 d1 d2 d3 d4 d5 d6 d7 r = true ∧ folB a s d1 = true)
theorem toC_in (c : Int) : 0 ≤ toC c ∧ toC c < 256 := by unfold toC; repeat (split <;> try decide)
theorem hear_two (a s i n d0 d1 d2 d3 d4 d5 d6 d7 : Int) (r : Bool) (ho : Oct [d0, d1, d2, d3, d4, d5, d6, d7]) (hs : 0 ≤ s ∧ s < 256) : ∃ f t x ok s', H2 a s i n d0 d1 d2 d3 d4 d5 d6 d7 r f t x ok s' := by
  cases h : cdB i n d0 d1 d2 d3 d4 d5 d6 d7 r && folB a s d1 with
  | false => exact ⟨0, 0, 0, false, s, hs, fun W p hp => (hear_no hp i n d0 d1 d2 d3 d4 d5 d6 d7 r ho h).mono (fun e w' ⟨he, hb⟩ => ⟨he, blk11 hb hp, Kp.of hb⟩), fun W p hp => (rhear_no hp i n d0 d1 d2 d3 d4 d5 d6 d7 r h).mono (fun e w' ⟨he, hb⟩ => ⟨he, blk11 hb hp, Kp.of hb⟩), .inl ⟨rfl, rfl, h⟩⟩
  | true =>
    obtain ⟨hc, hf⟩ : cdB i n d0 d1 d2 d3 d4 d5 d6 d7 r = true ∧ folB a s d1 = true := by simpa using h
    exact ⟨s, toC d0, rsC d0, true, toC d0, toC_in d0, fun W p hp => hear_yes hp i n d0 d1 d2 d3 d4 d5 d6 d7 r ho hc hf, fun W p hp => rhear_yes hp i n d0 d1 d2 d3 d4 d5 d6 d7 r hc hf, .inr ⟨rfl, rfl, rfl, rfl, hc, hf⟩⟩

set_option linter.unusedSimpArgs false in
set_option maxHeartbeats 4000000 in
set_option maxRecDepth 100000 in
theorem plays_many (a0 : Int) (a : Option Addr) (len cap : Nat) (w : World) (hl : 100 < len) : Calls Try.prog 3 #[.int .u8 a0, .slice a len cap] w fun e w' => e = .returned (.bool true) ∧ Below w.heap.size w w' := by
  have hl' : (100 : Int) < (len : Int) := by omega
  go_enter Try.func3, Try.ntmps3
  go_wp2_with fail
  go_ret
  exact ⟨rfl, Below.refl _ _⟩
set_option linter.unusedSimpArgs false in
set_option maxHeartbeats 4000000 in
set_option maxRecDepth 100000 in
theorem plays_bad (a0 : Int) (a : Option Addr) (len cap : Nat) (w : World) (hl : ¬ 100 < len) (h : a0 < 1 ∨ 127 < a0) (h0 : 0 ≤ a0) : Calls Try.prog 3 #[.int .u8 a0, .slice a len cap] w fun e w' => e = .returned (.bool true) ∧ Below w.heap.size w w' := by
  have hl' : ¬ (100 : Int) < (len : Int) := by omega
  have NW := fun W => new_bad a0 h h0 W
  clear h0
  go_enter Try.func3, Try.ntmps3
  go_wp2_with fail
  refine (NW _).mono ?_
  rintro e w1 ⟨rfl, rfl⟩
  clear NW
  by_cases h1 : a0 < 1
  · clear h
    go_wp2_with fail
    refine (works_any _).mono ?_
    rintro e w' ⟨rfl, hb⟩
    go_wp2_with fail
    go_ret
    exact ⟨rfl, hb⟩
  · have h2 : 127 < a0 := by omega
    clear h
    go_wp2_with fail
    refine (works_any _).mono ?_
    rintro e w' ⟨rfl, hb⟩
    go_wp2_with fail
    go_ret
    exact ⟨rfl, hb⟩
set_option linter.unusedSimpArgs false in
set_option maxHeartbeats 4000000 in
set_option maxRecDepth 100000 in
theorem plays_good (a0 : Int) (a : Option Addr) (len cap : Nat) (L : List Hx) (w : World) (o : IsHx w a len L) (hl : len ≤ 100) (h1 : 1 ≤ a0) (h2 : a0 ≤ 127) : Calls Try.prog 3 #[.int .u8 a0, .slice a len cap] w fun e w' => e = .returned (.bool true) ∧ Below w.heap.size w w' := by
  have hl' : ¬ (100 : Int) < (len : Int) := by omega
  have NW := fun W => new_ok a0 h1 h2 W
  have n1 : ¬ a0 < 1 := by omega
  have n2 : ¬ 127 < a0 := by omega
  have A0 : Hid (0 ≤ a0 ∧ a0 < 256) := ⟨by omega, by omega⟩
  have O : Hid (IsHx w a len L) := o
  have lsz := o.size
  clear h1 h2 hl o
  go_enter Try.func3, Try.ntmps3
  go_wp2_with fail
  refine (NW _).mono ?_
  rintro e w1 ⟨rfl, rfl⟩
  clear NW
  go_wp2_with fail
  have hp0 : ((w.alloc (.cells (maC a0 0) 57)).alloc (.cells (maC a0 0) 30)).heap[w.heap.size]? = some (.cells (maC a0 0) 57 (0, 0)) := ext11 (heap_new w _)
  have hq0 : ((w.alloc (.cells (maC a0 0) 57)).alloc (.cells (maC a0 0) 30)).heap[w.heap.size + 1]? = some (.cells (maC a0 0) 30 (0, 0)) := at11 _ _ _ (by simp)
  have B0 : Below w.heap.size w ((w.alloc (.cells (maC a0 0) 57)).alloc (.cells (maC a0 0) 30)) := (by repeat (first | exact Below.refl _ _ | apply Below.drew | apply Below.al))
  obtain ⟨p, hp⟩ : ∃ p, Hid (p = w.heap.size) := ⟨_, rfl⟩
  obtain ⟨q, hq⟩ : ∃ q, Hid (q = w.heap.size + 1) := ⟨_, rfl⟩
  have LP : Hid (w.heap.size ≤ p ∧ w.heap.size ≤ q) := ⟨by rw [hp.out]; exact Nat.le_refl _, by rw [hq.out]; omega⟩
  have P0 : Hid (Pr ((w.alloc (.cells (maC a0 0) 57)).alloc (.cells (maC a0 0) 30)) p q a0 0) := ⟨by rw [hp.out]; exact hp0, by rw [hq.out]; exact hq0⟩
  clear hp0 hq0
  generalize hx : ((w.alloc (.cells (maC a0 0) 57)).alloc (.cells (maC a0 0) 30) : World) = w2 at P0 B0 ⊢
  have ep := hp.out
  have eq := hq.out
  rw [← eq, ← ep]
  clear hx hp hq ep eq
  go_loopw [8] (fun u wr => ∃ i : Nat, i ≤ len ∧ u = .int .i64 (i : Int) ∧ Below w.heap.size w wr ∧ ∃ s : Int, Hid (0 ≤ s ∧ s < 256) ∧ Hid (Pr wr p q a0 s)) (fun u _ => len - (intOf u).toNat)
  case atStart => exact ⟨0, Nat.zero_le _, rfl, B0, 0, ⟨Int.le_refl _, by decide⟩, P0⟩
  case round =>
    clear P0 B0
    obtain ⟨i, hil, rfl, B, s, S0, PR⟩ := hrel
    by_cases hlt : i < len
    rotate_left
    · have g1 : ¬ (i : Int) < (len : Int) := by omega
      go_wp2_with fail
      refine (tells_any PR.out.hp PR.out.hq A0.out S0.out).mono ?_
      rintro e w3 ⟨rfl, hb3⟩
      have B3 := Below.andThen B hb3
      clear hb3
      go_wp2_with fail
      refine (works_any _).mono ?_
      rintro e w' ⟨rfl, hb⟩
      go_wp2_with fail
      go_ret
      exact ⟨rfl, Below.andThen B3 hb⟩
    have g1 : (i : Int) < (len : Int) := by omega
    obtain ⟨x, hx⟩ : ∃ x, L[i]? = some x := ⟨L[i]'(by omega), List.getElem?_eq_getElem _⟩
    have oct := O.out.good x (List.mem_of_getElem? hx)
    obtain ⟨b, off, e2, hc⟩ := O.out.at_ (by omega)
    subst e2
    have HC : Hid (∀ W, Below w.heap.size w W → ∀ j v, x.C[j]? = some v → W.cell? ⟨b, off + i * 12 + j, none⟩ = some v) := fun W hW j v hv => cl11 hW (hc i x hx j v hv)
    clear hc hx
    obtain ⟨fi, fn, d0, d1, d2, d3, d4, d5, d6, d7, fr, kd⟩ := x
    have OC : Hid (Oct [d0, d1, d2, d3, d4, d5, d6, d7]) := oct
    clear oct
    have wi : IntKind.i64.wrap ((i : Int) + 1) = ((i + 1 : Nat) : Int) := by rw [IntKind.wrap_i64]; omega
    obtain ⟨K, hK⟩ : ∃ K, Hid (K = pickN kd 3) := ⟨_, rfl⟩
    have PK : ∀ W, Calls Try.prog 10 #[.int .i64 kd, .int .i64 3] W fun e w' => e = .returned (.int .i64 K) ∧ w' = W := fun W => by rw [hK.out]; exact pick_any kd 3 (by decide) (by decide) W
    clear hK
    go_wp2_with fail
    refine (tells_any PR.out.hp PR.out.hq A0.out S0.out).mono ?_
    rintro e w3 ⟨rfl, hb3⟩
    have P3 : Hid (Pr w3 p q a0 s) := PR.out.next hb3
    have B3 := Below.andThen B hb3
    clear hb3 PR B
    have c0 : w3.cell? ⟨b, off + i * 12, none⟩ = some (.int .i64 kd) := HC.out _ B3 0 _ rfl
    go_wp2_with fail
    refine (PK _).mono ?_
    rintro e w4 ⟨rfl, rfl⟩
    clear PK c0
    by_cases hk : K = 2
    · by_cases hs0 : s = 0
      · obtain rfl := hs0
        clear S0
        go_wp2_with fail
        refine (boot_ok P3.out.hp A0.out).mono ?_
        rintro e w5 ⟨rfl, h5, k5⟩
        have n5 := P3.out.ne
        have q5 : w5.heap[q]? = some (.cells (maC a0 0) 30 (0, 0)) := Kp.at k5 (by simpa using n5) P3.out.hq
        have B5 : Below w.heap.size w w5 := Kp.below B3 k5 B3.size (by intro j hj; simp at hj; have := LP.out; omega)
        clear k5 P3 B3
        go_wp2_with fail
        have gF : ((w5.alloc (.cells (frC (1792 + a0) 1 0 0 0 0 0 0 0 0 false) 36)).alloc (.cells (maC a0 0) 30)).heap[w5.heap.size]? = some (.cells (frC (1792 + a0) 1 0 0 0 0 0 0 0 0 false) 36 (0, 0)) := ext11 (heap_new w5 _)
        have mB : ((w5.alloc (.cells (frC (1792 + a0) 1 0 0 0 0 0 0 0 0 false) 36)).alloc (.cells (maC a0 0) 30)).heap[w5.heap.size + 1]? = some (.cells (maC a0 0) 30 (0, 0)) := at11 _ _ _ (by simp)
        have hY : Below w5.heap.size w5 ((w5.alloc (.cells (frC (1792 + a0) 1 0 0 0 0 0 0 0 0 false) 36)).alloc (.cells (maC a0 0) 30)) := (by repeat (first | exact Below.refl _ _ | apply Below.drew | apply Below.al))
        have hp6 := blk11 hY h5
        have hq6 := blk11 hY q5
        have B6 := Below.andThen B5 hY
        clear h5 q5 B5 hY
        generalize hx : ((w5.alloc (.cells (frC (1792 + a0) 1 0 0 0 0 0 0 0 0 false) 36)).alloc (.cells (maC a0 0) 30) : World) = y at gF mB hp6 hq6 B6 ⊢
        clear hx
        obtain ⟨B, hB⟩ : ∃ B, Hid (B = w5.heap.size) := ⟨_, rfl⟩
        rw [← hB.out] at gF mB ⊢
        clear hB
        have q1 : y.cell? ⟨q, 1, none⟩ = some (.int .u8 0) := by rw [cell_of_row y _ 1 _ _ _ hq6]; rfl
        have hq : ∀ W : World, (binOp .neq 36 (frV (1792 + a0) 1 0 0 0 0 0 0 0 0 false) (frV (1792 + a0) 1 0 0 0 0 0 0 0 0 false)).run Try.prog W = .ok (.bool false) W := fun W => by rw [neqF, sameF_self]; rfl
        refine wp_region_held_drew (S := fun x1 => Below y.heap.size y x1) (by kernel_rfl) (Below.drew (Below.refl _ _)) (fun hHeld => ?_)
        refine wpAnyH_take (i := 0) (v := (.pointer (some ⟨q, 0, none⟩))) rfl (by kernel_rfl) (by kernel_rfl) (by kernel_rfl) (fun _ _ _ h => h) (Or.inl ⟨by rfl, ?_⟩) (by assumption) ?_
        · intro w9 hSw
          try dsimp only at hSw
          go_simp
          all_goals try decide
          all_goals try assumption
          all_goals try omega
        try simp only [Act.put, List.getElem_toArray, List.getElem_cons_succ, List.getElem_cons_zero, List.setIfInBounds_toArray, List.set_cons_zero, List.set_cons_succ]
        refine wpAnyH_take (i := 1) (v := (.pointer (some ⟨q, 0, none⟩))) rfl (by kernel_rfl) (by kernel_rfl) (by kernel_rfl) (fun _ _ _ h => h) (Or.inl ⟨by rfl, ?_⟩) (by assumption) ?_
        · intro w9 hSw
          try dsimp only at hSw
          go_simp
          all_goals try decide
          all_goals try assumption
          all_goals try omega
        try simp only [Act.put, List.getElem_toArray, List.getElem_cons_succ, List.getElem_cons_zero, List.setIfInBounds_toArray, List.set_cons_zero, List.set_cons_succ]
        refine wpAnyH_take (i := 2) (v := (.pointer (some ⟨q, 1, none⟩))) rfl (by kernel_rfl) (by kernel_rfl) (by kernel_rfl) (fun _ _ _ h => h) (Or.inl ⟨by rfl, ?_⟩) (by assumption) ?_
        · intro w9 hSw
          try dsimp only at hSw
          go_simp
          all_goals try decide
          all_goals try assumption
          all_goals try omega
        try simp only [Act.put, List.getElem_toArray, List.getElem_cons_succ, List.getElem_cons_zero, List.setIfInBounds_toArray, List.set_cons_zero, List.set_cons_succ]
        refine wpAnyH_take (i := 3) (v := (.int .u8 0)) rfl (by kernel_rfl) (by kernel_rfl) (by kernel_rfl) (fun _ _ _ h => h) (Or.inl ⟨by rfl, ?_⟩) (by assumption) ?_
        · intro w9 hSw
          try dsimp only at hSw
          have hc9 := cl11 hSw q1
          go_simp
          all_goals try decide
          all_goals try assumption
          all_goals try omega
        try simp only [Act.put, List.getElem_toArray, List.getElem_cons_succ, List.getElem_cons_zero, List.setIfInBounds_toArray, List.set_cons_zero, List.set_cons_succ]
        refine wpAnyH_take (i := 4) (v := (.bool false)) rfl (by kernel_rfl) (by kernel_rfl) (by kernel_rfl) (fun _ _ _ h => h) (Or.inl ⟨by rfl, ?_⟩) (by assumption) ?_
        · intro w9 hSw
          try dsimp only at hSw
          go_simp
          all_goals try decide
          all_goals try assumption
          all_goals try omega
        try simp only [Act.put, List.getElem_toArray, List.getElem_cons_succ, List.getElem_cons_zero, List.setIfInBounds_toArray, List.set_cons_zero, List.set_cons_succ]
        refine wpAnyH_take (i := 5) (v := (.bool false)) rfl (by kernel_rfl) (by kernel_rfl) (by kernel_rfl) (fun _ _ _ h => h) (Or.inl ⟨by rfl, ?_⟩) (by assumption) ?_
        · intro w9 hSw
          try dsimp only at hSw
          go_simp
          all_goals try decide
          all_goals try assumption
          all_goals try omega
        try simp only [Act.put, List.getElem_toArray, List.getElem_cons_succ, List.getElem_cons_zero, List.setIfInBounds_toArray, List.set_cons_zero, List.set_cons_succ]
        refine wpAnyH_take (i := 6) (v := undef) rfl (by kernel_rfl) (by kernel_rfl) (by kernel_rfl) (fun _ _ _ h => h) (Or.inr ⟨by rfl, rfl⟩) (by assumption) ?_
        try simp only [Act.put, List.getElem_toArray, List.getElem_cons_succ, List.getElem_cons_zero, List.setIfInBounds_toArray, List.set_cons_zero, List.set_cons_succ]
        refine wpAnyH_take (i := 7) (v := undef) rfl (by kernel_rfl) (by kernel_rfl) (by kernel_rfl) (fun _ _ _ h => h) (Or.inr ⟨by rfl, rfl⟩) (by assumption) ?_
        try simp only [Act.put, List.getElem_toArray, List.getElem_cons_succ, List.getElem_cons_zero, List.setIfInBounds_toArray, List.set_cons_zero, List.set_cons_succ]
        refine wpAnyH_take (i := 8) (v := undef) rfl (by kernel_rfl) (by kernel_rfl) (by kernel_rfl) (fun _ _ _ h => h) (Or.inr ⟨by rfl, rfl⟩) (by assumption) ?_
        try simp only [Act.put, List.getElem_toArray, List.getElem_cons_succ, List.getElem_cons_zero, List.setIfInBounds_toArray, List.set_cons_zero, List.set_cons_succ]
        refine wpAnyH_take (i := 9) (v := undef) rfl (by kernel_rfl) (by kernel_rfl) (by kernel_rfl) (fun _ _ _ h => h) (Or.inr ⟨by rfl, rfl⟩) (by assumption) ?_
        try simp only [Act.put, List.getElem_toArray, List.getElem_cons_succ, List.getElem_cons_zero, List.setIfInBounds_toArray, List.set_cons_zero, List.set_cons_succ]
        refine wpAnyH_take (i := 10) (v := undef) rfl (by kernel_rfl) (by kernel_rfl) (by kernel_rfl) (fun _ _ _ h => h) (Or.inr ⟨by rfl, rfl⟩) (by assumption) ?_
        try simp only [Act.put, List.getElem_toArray, List.getElem_cons_succ, List.getElem_cons_zero, List.setIfInBounds_toArray, List.set_cons_zero, List.set_cons_succ]
        refine wpAnyH_take (i := 11) (v := undef) rfl (by kernel_rfl) (by kernel_rfl) (by kernel_rfl) (fun _ _ _ h => h) (Or.inr ⟨by rfl, rfl⟩) (by assumption) ?_
        try simp only [Act.put, List.getElem_toArray, List.getElem_cons_succ, List.getElem_cons_zero, List.setIfInBounds_toArray, List.set_cons_zero, List.set_cons_succ]
        refine wpAnyH_take (i := 12) (v := undef) rfl (by kernel_rfl) (by kernel_rfl) (by kernel_rfl) (fun _ _ _ h => h) (Or.inr ⟨by rfl, rfl⟩) (by assumption) ?_
        try simp only [Act.put, List.getElem_toArray, List.getElem_cons_succ, List.getElem_cons_zero, List.setIfInBounds_toArray, List.set_cons_zero, List.set_cons_succ]
        refine wpAnyH_take (i := 13) (v := (.bool false)) rfl (by kernel_rfl) (by kernel_rfl) (by kernel_rfl) (fun _ _ _ h => h) (Or.inl ⟨by rfl, ?_⟩) (by assumption) ?_
        · intro w9 hSw
          try dsimp only at hSw
          go_simp
          all_goals try decide
          all_goals try assumption
          all_goals try omega
        try simp only [Act.put, List.getElem_toArray, List.getElem_cons_succ, List.getElem_cons_zero, List.setIfInBounds_toArray, List.set_cons_zero, List.set_cons_succ]
        refine wpAnyH_take (i := 14) (v := (.bool false)) rfl (by kernel_rfl) (by kernel_rfl) (by kernel_rfl) (fun _ _ _ h => h) (Or.inl ⟨by rfl, ?_⟩) (by assumption) ?_
        · intro w9 hSw
          try dsimp only at hSw
          go_simp
          all_goals try decide
          all_goals try assumption
          all_goals try omega
        try simp only [Act.put, List.getElem_toArray, List.getElem_cons_succ, List.getElem_cons_zero, List.setIfInBounds_toArray, List.set_cons_zero, List.set_cons_succ]
        refine wpAnyH_take (i := 15) (v := (.pointer (some ⟨q, 0, none⟩))) rfl (by kernel_rfl) (by kernel_rfl) (by kernel_rfl) (fun _ _ _ h => h) (Or.inl ⟨by rfl, ?_⟩) (by assumption) ?_
        · intro w9 hSw
          try dsimp only at hSw
          go_simp
          all_goals try decide
          all_goals try assumption
          all_goals try omega
        try simp only [Act.put, List.getElem_toArray, List.getElem_cons_succ, List.getElem_cons_zero, List.setIfInBounds_toArray, List.set_cons_zero, List.set_cons_succ]
        refine wpAnyH_take (i := 16) (v := (.pointer (some ⟨q, 0, none⟩))) rfl (by kernel_rfl) (by kernel_rfl) (by kernel_rfl) (fun _ _ _ h => h) (Or.inl ⟨by rfl, ?_⟩) (by assumption) ?_
        · intro w9 hSw
          try dsimp only at hSw
          go_simp
          all_goals try decide
          all_goals try assumption
          all_goals try omega
        try simp only [Act.put, List.getElem_toArray, List.getElem_cons_succ, List.getElem_cons_zero, List.setIfInBounds_toArray, List.set_cons_zero, List.set_cons_succ]
        refine wpAnyH_take (i := 17) (v := (.pointer (some ⟨q, 1, none⟩))) rfl (by kernel_rfl) (by kernel_rfl) (by kernel_rfl) (fun _ _ _ h => h) (Or.inl ⟨by rfl, ?_⟩) (by assumption) ?_
        · intro w9 hSw
          try dsimp only at hSw
          go_simp
          all_goals try decide
          all_goals try assumption
          all_goals try omega
        try simp only [Act.put, List.getElem_toArray, List.getElem_cons_succ, List.getElem_cons_zero, List.setIfInBounds_toArray, List.set_cons_zero, List.set_cons_succ]
        refine wpAnyH_take (i := 18) (v := (.int .u8 0)) rfl (by kernel_rfl) (by kernel_rfl) (by kernel_rfl) (fun _ _ _ h => h) (Or.inl ⟨by rfl, ?_⟩) (by assumption) ?_
        · intro w9 hSw
          try dsimp only at hSw
          have hc9 := cl11 hSw q1
          go_simp
          all_goals try decide
          all_goals try assumption
          all_goals try omega
        try simp only [Act.put, List.getElem_toArray, List.getElem_cons_succ, List.getElem_cons_zero, List.setIfInBounds_toArray, List.set_cons_zero, List.set_cons_succ]
        refine wpAnyH_take (i := 19) (v := (.bool true)) rfl (by kernel_rfl) (by kernel_rfl) (by kernel_rfl) (fun _ _ _ h => h) (Or.inl ⟨by rfl, ?_⟩) (by assumption) ?_
        · intro w9 hSw
          try dsimp only at hSw
          go_simp
          all_goals try decide
          all_goals try assumption
          all_goals try omega
        try simp only [Act.put, List.getElem_toArray, List.getElem_cons_succ, List.getElem_cons_zero, List.setIfInBounds_toArray, List.set_cons_zero, List.set_cons_succ]
        refine wpAnyH_take (i := 20) (v := (.bool true)) rfl (by kernel_rfl) (by kernel_rfl) (by kernel_rfl) (fun _ _ _ h => h) (Or.inl ⟨by rfl, ?_⟩) (by assumption) ?_
        · intro w9 hSw
          try dsimp only at hSw
          go_simp
          all_goals try decide
          all_goals try assumption
          all_goals try omega
        try simp only [Act.put, List.getElem_toArray, List.getElem_cons_succ, List.getElem_cons_zero, List.setIfInBounds_toArray, List.set_cons_zero, List.set_cons_succ]
        refine wpAnyH_take (i := 21) (v := (.int .i64 0)) rfl (by kernel_rfl) (by kernel_rfl) (by kernel_rfl) (fun _ _ _ h => h) (Or.inl ⟨by rfl, ?_⟩) (by assumption) ?_
        · intro w9 hSw
          try dsimp only at hSw
          go_simp
          all_goals try decide
          all_goals try assumption
          all_goals try omega
        try simp only [Act.put, List.getElem_toArray, List.getElem_cons_succ, List.getElem_cons_zero, List.setIfInBounds_toArray, List.set_cons_zero, List.set_cons_succ]
        refine wpAnyH_take (i := 22) (v := (.bool false)) rfl (by kernel_rfl) (by kernel_rfl) (by kernel_rfl) (fun _ _ _ h => h) (Or.inl ⟨by rfl, ?_⟩) (by assumption) ?_
        · intro w9 hSw
          try dsimp only at hSw
          go_simp
          all_goals try decide
          all_goals try assumption
          all_goals try omega
        try simp only [Act.put, List.getElem_toArray, List.getElem_cons_succ, List.getElem_cons_zero, List.setIfInBounds_toArray, List.set_cons_zero, List.set_cons_succ]
        refine wpAnyH_take (i := 23) (v := (.bool false)) rfl (by kernel_rfl) (by kernel_rfl) (by kernel_rfl) (fun _ _ _ h => h) (Or.inl ⟨by rfl, ?_⟩) (by assumption) ?_
        · intro w9 hSw
          try dsimp only at hSw
          go_simp
          all_goals try decide
          all_goals try assumption
          all_goals try omega
        try simp only [Act.put, List.getElem_toArray, List.getElem_cons_succ, List.getElem_cons_zero, List.setIfInBounds_toArray, List.set_cons_zero, List.set_cons_succ]
        refine wpAnyH_take (i := 24) (v := (frV (1792 + a0) 1 0 0 0 0 0 0 0 0 false)) rfl (by kernel_rfl) (by kernel_rfl) (by kernel_rfl) (fun _ _ _ h => h) (Or.inl ⟨by rfl, ?_⟩) (by assumption) ?_
        · intro w9 hSw
          try dsimp only at hSw
          exact ex_load_by 36 (.tmp 9) rfl _ _ rfl (loadF _ _ _ _ _ _ _ _ _ _ _ _ _ (blk11 hSw gF))
        try simp only [Act.put, List.getElem_toArray, List.getElem_cons_succ, List.getElem_cons_zero, List.setIfInBounds_toArray, List.set_cons_zero, List.set_cons_succ]
        refine wpAnyH_ready (rs := [25]) (by kernel_rfl) (by simp) ?_
        refine AllReadyH.cons rfl (fun K' hK => ?_) AllReadyH.nil
        rw [if_pos (by rfl)]
        simp only [List.getElem_toArray, List.getElem_cons_succ, List.getElem_cons_zero]
        have S1 := hHeld
        go_wp2_with fail
        refine (rbeat_at (blk11 S1 mB) A0.out (by decide)).mono ?_
        rintro e wb ⟨rfl, hbb⟩
        try go_wp2_with fail
        refine hK.out _ _ (Below.andThen S1 hbb) (fun hHeld => ?_)
        clear hK K'
        try simp only [Act.put, List.getElem_toArray, List.getElem_cons_succ, List.getElem_cons_zero, List.setIfInBounds_toArray, List.set_cons_zero, List.set_cons_succ]
        clear S1 hbb
        refine wpAnyH_take (i := 26) (v := (.bool false)) rfl (by kernel_rfl) (by kernel_rfl) (by kernel_rfl) (fun _ _ _ h => h) (Or.inl ⟨by rfl, ?_⟩) (by assumption) ?_
        · intro w9 hSw
          try dsimp only at hSw
          go_simp
          all_goals try decide
          all_goals try assumption
          all_goals try omega
        try simp only [Act.put, List.getElem_toArray, List.getElem_cons_succ, List.getElem_cons_zero, List.setIfInBounds_toArray, List.set_cons_zero, List.set_cons_succ]
        refine wpAnyH_take (i := 27) (v := (.bool false)) rfl (by kernel_rfl) (by kernel_rfl) (by kernel_rfl) (fun _ _ _ h => h) (Or.inl ⟨by rfl, ?_⟩) (by assumption) ?_
        · intro w9 hSw
          try dsimp only at hSw
          go_simp
          all_goals try decide
          all_goals try assumption
          all_goals try omega
        try simp only [Act.put, List.getElem_toArray, List.getElem_cons_succ, List.getElem_cons_zero, List.setIfInBounds_toArray, List.set_cons_zero, List.set_cons_succ]
        refine wpAnyH_take (i := 28) (v := (.bool false)) rfl (by kernel_rfl) (by kernel_rfl) (by kernel_rfl) (fun _ _ _ h => h) (Or.inl ⟨by rfl, ?_⟩) (by assumption) ?_
        · intro w9 hSw
          try dsimp only at hSw
          go_simp
          all_goals try decide
          all_goals try assumption
          all_goals try omega
        try simp only [Act.put, List.getElem_toArray, List.getElem_cons_succ, List.getElem_cons_zero, List.setIfInBounds_toArray, List.set_cons_zero, List.set_cons_succ]
        refine wpAnyH_take (i := 29) (v := (.bool false)) rfl (by kernel_rfl) (by kernel_rfl) (by kernel_rfl) (fun _ _ _ h => h) (Or.inl ⟨by rfl, ?_⟩) (by assumption) ?_
        · intro w9 hSw
          try dsimp only at hSw
          go_simp
          all_goals try decide
          all_goals try assumption
          all_goals try omega
        try simp only [Act.put, List.getElem_toArray, List.getElem_cons_succ, List.getElem_cons_zero, List.setIfInBounds_toArray, List.set_cons_zero, List.set_cons_succ]
        refine wpAnyH_done (by kernel_rfl) ?_ _
        have Z7 := hHeld
        have hp7 := blk11 Z7 hp6
        have hq7 := blk11 Z7 hq6
        have B7 := Below.andThen B6 Z7
        clear Z7 hHeld hp6 hq6 B6 q1 hq gF mB
        have u1 : wb.cell? ⟨q, 1, none⟩ = some (.int .u8 0) := by rw [cell_of_row _ _ 1 _ _ _ hq7]; rfl
        have z1 := froz11 _ q 1 _ _ hq7
        have l1 := lt_of_heap hq7
        have hq8 : (wb.setCell ⟨q, 1, none⟩ (.int .u8 127)).heap[q]? = some (.cells (maC a0 127) 30 (0, 0)) := heap_setCell_same _ _ _ _ _ _ hq7
        have hp8 : (wb.setCell ⟨q, 1, none⟩ (.int .u8 127)).heap[p]? = some (.cells (maC a0 127) 57 (0, 0)) := (Below.heap_setCell wb ⟨q, 1, none⟩ _ _ (by show p ≠ q; exact fun h => n5 h.symm)).trans hp7
        have B8 : Below w.heap.size w (wb.setCell ⟨q, 1, none⟩ (.int .u8 127)) := Below.setCell B7 (by have := LP.out; simp; omega) _
        go_wp2_with fail
        exact ⟨⟨i + 1, by omega, by go_num, B8, 127, ⟨by decide, by decide⟩, ⟨hp8, hq8⟩⟩, by simp [intOf]; omega⟩
      · go_wp2_with fail
        refine (boot_no P3.out.hp hs0).mono ?_
        rintro e w5 ⟨rfl, hb5⟩
        have n5 := P3.out.ne
        have h5 := blk11 hb5 P3.out.hp
        have q5 := blk11 hb5 P3.out.hq
        have B5 : Below w.heap.size w w5 := Below.andThen B3 hb5
        clear hb5 P3 B3
        go_wp2_with fail
        have gF : ((w5.alloc (.cells (frC 0 0 0 0 0 0 0 0 0 0 false) 36)).alloc (.cells (maC a0 0) 30)).heap[w5.heap.size]? = some (.cells (frC 0 0 0 0 0 0 0 0 0 0 false) 36 (0, 0)) := ext11 (heap_new w5 _)
        have mB : ((w5.alloc (.cells (frC 0 0 0 0 0 0 0 0 0 0 false) 36)).alloc (.cells (maC a0 0) 30)).heap[w5.heap.size + 1]? = some (.cells (maC a0 0) 30 (0, 0)) := at11 _ _ _ (by simp)
        have hY : Below w5.heap.size w5 ((w5.alloc (.cells (frC 0 0 0 0 0 0 0 0 0 0 false) 36)).alloc (.cells (maC a0 0) 30)) := (by repeat (first | exact Below.refl _ _ | apply Below.drew | apply Below.al))
        have hp6 := blk11 hY h5
        have hq6 := blk11 hY q5
        have B6 := Below.andThen B5 hY
        clear h5 q5 B5 hY
        generalize hx : ((w5.alloc (.cells (frC 0 0 0 0 0 0 0 0 0 0 false) 36)).alloc (.cells (maC a0 0) 30) : World) = y at gF mB hp6 hq6 B6 ⊢
        clear hx
        obtain ⟨B, hB⟩ : ∃ B, Hid (B = w5.heap.size) := ⟨_, rfl⟩
        rw [← hB.out] at gF mB ⊢
        clear hB
        have q1 : y.cell? ⟨q, 1, none⟩ = some (.int .u8 s) := by rw [cell_of_row y _ 1 _ _ _ hq6]; rfl
        have hq : ∀ W : World, (binOp .neq 36 (frV 0 0 0 0 0 0 0 0 0 0 false) (frV 0 0 0 0 0 0 0 0 0 0 false)).run Try.prog W = .ok (.bool false) W := fun W => by rw [neqF, sameF_self]; rfl
        refine wp_region_held_drew (S := fun x1 => Below y.heap.size y x1) (by kernel_rfl) (Below.drew (Below.refl _ _)) (fun hHeld => ?_)
        refine wpAnyH_take (i := 0) (v := (.pointer (some ⟨q, 0, none⟩))) rfl (by kernel_rfl) (by kernel_rfl) (by kernel_rfl) (fun _ _ _ h => h) (Or.inl ⟨by rfl, ?_⟩) (by assumption) ?_
        · intro w9 hSw
          try dsimp only at hSw
          go_simp
          all_goals try decide
          all_goals try assumption
          all_goals try omega
        try simp only [Act.put, List.getElem_toArray, List.getElem_cons_succ, List.getElem_cons_zero, List.setIfInBounds_toArray, List.set_cons_zero, List.set_cons_succ]
        refine wpAnyH_take (i := 1) (v := (.pointer (some ⟨q, 0, none⟩))) rfl (by kernel_rfl) (by kernel_rfl) (by kernel_rfl) (fun _ _ _ h => h) (Or.inl ⟨by rfl, ?_⟩) (by assumption) ?_
        · intro w9 hSw
          try dsimp only at hSw
          go_simp
          all_goals try decide
          all_goals try assumption
          all_goals try omega
        try simp only [Act.put, List.getElem_toArray, List.getElem_cons_succ, List.getElem_cons_zero, List.setIfInBounds_toArray, List.set_cons_zero, List.set_cons_succ]
        refine wpAnyH_take (i := 2) (v := (.pointer (some ⟨q, 1, none⟩))) rfl (by kernel_rfl) (by kernel_rfl) (by kernel_rfl) (fun _ _ _ h => h) (Or.inl ⟨by rfl, ?_⟩) (by assumption) ?_
        · intro w9 hSw
          try dsimp only at hSw
          go_simp
          all_goals try decide
          all_goals try assumption
          all_goals try omega
        try simp only [Act.put, List.getElem_toArray, List.getElem_cons_succ, List.getElem_cons_zero, List.setIfInBounds_toArray, List.set_cons_zero, List.set_cons_succ]
        refine wpAnyH_take (i := 3) (v := (.int .u8 s)) rfl (by kernel_rfl) (by kernel_rfl) (by kernel_rfl) (fun _ _ _ h => h) (Or.inl ⟨by rfl, ?_⟩) (by assumption) ?_
        · intro w9 hSw
          try dsimp only at hSw
          have hc9 := cl11 hSw q1
          go_simp
          all_goals try decide
          all_goals try assumption
          all_goals try omega
        try simp only [Act.put, List.getElem_toArray, List.getElem_cons_succ, List.getElem_cons_zero, List.setIfInBounds_toArray, List.set_cons_zero, List.set_cons_succ]
        refine wpAnyH_take (i := 4) (v := (.bool true)) rfl (by kernel_rfl) (by kernel_rfl) (by kernel_rfl) (fun _ _ _ h => h) (Or.inl ⟨by rfl, ?_⟩) (by assumption) ?_
        · intro w9 hSw
          try dsimp only at hSw
          go_simp
          all_goals try decide
          all_goals try assumption
          all_goals try omega
        try simp only [Act.put, List.getElem_toArray, List.getElem_cons_succ, List.getElem_cons_zero, List.setIfInBounds_toArray, List.set_cons_zero, List.set_cons_succ]
        refine wpAnyH_take (i := 5) (v := (.bool true)) rfl (by kernel_rfl) (by kernel_rfl) (by kernel_rfl) (fun _ _ _ h => h) (Or.inl ⟨by rfl, ?_⟩) (by assumption) ?_
        · intro w9 hSw
          try dsimp only at hSw
          go_simp
          all_goals try decide
          all_goals try assumption
          all_goals try omega
        try simp only [Act.put, List.getElem_toArray, List.getElem_cons_succ, List.getElem_cons_zero, List.setIfInBounds_toArray, List.set_cons_zero, List.set_cons_succ]
        refine wpAnyH_take (i := 6) (v := (.int .i64 4)) rfl (by kernel_rfl) (by kernel_rfl) (by kernel_rfl) (fun _ _ _ h => h) (Or.inl ⟨by rfl, ?_⟩) (by assumption) ?_
        · intro w9 hSw
          try dsimp only at hSw
          go_simp
          all_goals try decide
          all_goals try assumption
          all_goals try omega
        try simp only [Act.put, List.getElem_toArray, List.getElem_cons_succ, List.getElem_cons_zero, List.setIfInBounds_toArray, List.set_cons_zero, List.set_cons_succ]
        refine wpAnyH_take (i := 7) (v := (.bool false)) rfl (by kernel_rfl) (by kernel_rfl) (by kernel_rfl) (fun _ _ _ h => h) (Or.inl ⟨by rfl, ?_⟩) (by assumption) ?_
        · intro w9 hSw
          try dsimp only at hSw
          go_simp
          all_goals try decide
          all_goals try assumption
          all_goals try omega
        try simp only [Act.put, List.getElem_toArray, List.getElem_cons_succ, List.getElem_cons_zero, List.setIfInBounds_toArray, List.set_cons_zero, List.set_cons_succ]
        refine wpAnyH_take (i := 8) (v := (.bool false)) rfl (by kernel_rfl) (by kernel_rfl) (by kernel_rfl) (fun _ _ _ h => h) (Or.inl ⟨by rfl, ?_⟩) (by assumption) ?_
        · intro w9 hSw
          try dsimp only at hSw
          go_simp
          all_goals try decide
          all_goals try assumption
          all_goals try omega
        try simp only [Act.put, List.getElem_toArray, List.getElem_cons_succ, List.getElem_cons_zero, List.setIfInBounds_toArray, List.set_cons_zero, List.set_cons_succ]
        refine wpAnyH_take (i := 9) (v := (frV 0 0 0 0 0 0 0 0 0 0 false)) rfl (by kernel_rfl) (by kernel_rfl) (by kernel_rfl) (fun _ _ _ h => h) (Or.inl ⟨by rfl, ?_⟩) (by assumption) ?_
        · intro w9 hSw
          try dsimp only at hSw
          exact ex_load_by 36 (.tmp 9) rfl _ _ rfl (loadF _ _ _ _ _ _ _ _ _ _ _ _ _ (blk11 hSw gF))
        try simp only [Act.put, List.getElem_toArray, List.getElem_cons_succ, List.getElem_cons_zero, List.setIfInBounds_toArray, List.set_cons_zero, List.set_cons_succ]
        refine wpAnyH_take (i := 10) (v := (zeroF)) rfl (by kernel_rfl) (by kernel_rfl) (by kernel_rfl) (fun _ _ _ h => h) (Or.inl ⟨by rfl, ?_⟩) (by assumption) ?_
        · intro w9 hSw
          try dsimp only at hSw
          go_simp
          all_goals try decide
          all_goals try assumption
          all_goals try omega
        try simp only [Act.put, List.getElem_toArray, List.getElem_cons_succ, List.getElem_cons_zero, List.setIfInBounds_toArray, List.set_cons_zero, List.set_cons_succ]
        refine wpAnyH_take (i := 11) (v := (.bool false)) rfl (by kernel_rfl) (by kernel_rfl) (by kernel_rfl) (fun _ _ _ h => h) (Or.inl ⟨by rfl, ?_⟩) (by assumption) ?_
        · intro w9 hSw
          try dsimp only at hSw
          go_simp
          all_goals try decide
          all_goals try assumption
          all_goals try omega
        try simp only [Act.put, List.getElem_toArray, List.getElem_cons_succ, List.getElem_cons_zero, List.setIfInBounds_toArray, List.set_cons_zero, List.set_cons_succ]
        refine wpAnyH_take (i := 12) (v := (.bool false)) rfl (by kernel_rfl) (by kernel_rfl) (by kernel_rfl) (fun _ _ _ h => h) (Or.inl ⟨by rfl, ?_⟩) (by assumption) ?_
        · intro w9 hSw
          try dsimp only at hSw
          go_simp
          all_goals try decide
          all_goals try assumption
          all_goals try omega
        try simp only [Act.put, List.getElem_toArray, List.getElem_cons_succ, List.getElem_cons_zero, List.setIfInBounds_toArray, List.set_cons_zero, List.set_cons_succ]
        refine wpAnyH_take (i := 13) (v := (.bool false)) rfl (by kernel_rfl) (by kernel_rfl) (by kernel_rfl) (fun _ _ _ h => h) (Or.inl ⟨by rfl, ?_⟩) (by assumption) ?_
        · intro w9 hSw
          try dsimp only at hSw
          go_simp
          all_goals try decide
          all_goals try assumption
          all_goals try omega
        try simp only [Act.put, List.getElem_toArray, List.getElem_cons_succ, List.getElem_cons_zero, List.setIfInBounds_toArray, List.set_cons_zero, List.set_cons_succ]
        refine wpAnyH_take (i := 14) (v := (.bool false)) rfl (by kernel_rfl) (by kernel_rfl) (by kernel_rfl) (fun _ _ _ h => h) (Or.inl ⟨by rfl, ?_⟩) (by assumption) ?_
        · intro w9 hSw
          try dsimp only at hSw
          go_simp
          all_goals try decide
          all_goals try assumption
          all_goals try omega
        try simp only [Act.put, List.getElem_toArray, List.getElem_cons_succ, List.getElem_cons_zero, List.setIfInBounds_toArray, List.set_cons_zero, List.set_cons_succ]
        refine wpAnyH_take (i := 15) (v := (.pointer (some ⟨q, 0, none⟩))) rfl (by kernel_rfl) (by kernel_rfl) (by kernel_rfl) (fun _ _ _ h => h) (Or.inl ⟨by rfl, ?_⟩) (by assumption) ?_
        · intro w9 hSw
          try dsimp only at hSw
          go_simp
          all_goals try decide
          all_goals try assumption
          all_goals try omega
        try simp only [Act.put, List.getElem_toArray, List.getElem_cons_succ, List.getElem_cons_zero, List.setIfInBounds_toArray, List.set_cons_zero, List.set_cons_succ]
        refine wpAnyH_take (i := 16) (v := (.pointer (some ⟨q, 0, none⟩))) rfl (by kernel_rfl) (by kernel_rfl) (by kernel_rfl) (fun _ _ _ h => h) (Or.inl ⟨by rfl, ?_⟩) (by assumption) ?_
        · intro w9 hSw
          try dsimp only at hSw
          go_simp
          all_goals try decide
          all_goals try assumption
          all_goals try omega
        try simp only [Act.put, List.getElem_toArray, List.getElem_cons_succ, List.getElem_cons_zero, List.setIfInBounds_toArray, List.set_cons_zero, List.set_cons_succ]
        refine wpAnyH_take (i := 17) (v := (.pointer (some ⟨q, 1, none⟩))) rfl (by kernel_rfl) (by kernel_rfl) (by kernel_rfl) (fun _ _ _ h => h) (Or.inl ⟨by rfl, ?_⟩) (by assumption) ?_
        · intro w9 hSw
          try dsimp only at hSw
          go_simp
          all_goals try decide
          all_goals try assumption
          all_goals try omega
        try simp only [Act.put, List.getElem_toArray, List.getElem_cons_succ, List.getElem_cons_zero, List.setIfInBounds_toArray, List.set_cons_zero, List.set_cons_succ]
        refine wpAnyH_take (i := 18) (v := (.int .u8 s)) rfl (by kernel_rfl) (by kernel_rfl) (by kernel_rfl) (fun _ _ _ h => h) (Or.inl ⟨by rfl, ?_⟩) (by assumption) ?_
        · intro w9 hSw
          try dsimp only at hSw
          have hc9 := cl11 hSw q1
          go_simp
          all_goals try decide
          all_goals try assumption
          all_goals try omega
        try simp only [Act.put, List.getElem_toArray, List.getElem_cons_succ, List.getElem_cons_zero, List.setIfInBounds_toArray, List.set_cons_zero, List.set_cons_succ]
        refine wpAnyH_take (i := 19) (v := (.bool false)) rfl (by kernel_rfl) (by kernel_rfl) (by kernel_rfl) (fun _ _ _ h => h) (Or.inl ⟨by rfl, ?_⟩) (by assumption) ?_
        · intro w9 hSw
          try dsimp only at hSw
          go_simp
          all_goals try decide
          all_goals try assumption
          all_goals try omega
        try simp only [Act.put, List.getElem_toArray, List.getElem_cons_succ, List.getElem_cons_zero, List.setIfInBounds_toArray, List.set_cons_zero, List.set_cons_succ]
        refine wpAnyH_take (i := 20) (v := (.bool false)) rfl (by kernel_rfl) (by kernel_rfl) (by kernel_rfl) (fun _ _ _ h => h) (Or.inl ⟨by rfl, ?_⟩) (by assumption) ?_
        · intro w9 hSw
          try dsimp only at hSw
          go_simp
          all_goals try decide
          all_goals try assumption
          all_goals try omega
        try simp only [Act.put, List.getElem_toArray, List.getElem_cons_succ, List.getElem_cons_zero, List.setIfInBounds_toArray, List.set_cons_zero, List.set_cons_succ]
        refine wpAnyH_take (i := 21) (v := undef) rfl (by kernel_rfl) (by kernel_rfl) (by kernel_rfl) (fun _ _ _ h => h) (Or.inr ⟨by rfl, rfl⟩) (by assumption) ?_
        try simp only [Act.put, List.getElem_toArray, List.getElem_cons_succ, List.getElem_cons_zero, List.setIfInBounds_toArray, List.set_cons_zero, List.set_cons_succ]
        refine wpAnyH_take (i := 22) (v := undef) rfl (by kernel_rfl) (by kernel_rfl) (by kernel_rfl) (fun _ _ _ h => h) (Or.inr ⟨by rfl, rfl⟩) (by assumption) ?_
        try simp only [Act.put, List.getElem_toArray, List.getElem_cons_succ, List.getElem_cons_zero, List.setIfInBounds_toArray, List.set_cons_zero, List.set_cons_succ]
        refine wpAnyH_take (i := 23) (v := undef) rfl (by kernel_rfl) (by kernel_rfl) (by kernel_rfl) (fun _ _ _ h => h) (Or.inr ⟨by rfl, rfl⟩) (by assumption) ?_
        try simp only [Act.put, List.getElem_toArray, List.getElem_cons_succ, List.getElem_cons_zero, List.setIfInBounds_toArray, List.set_cons_zero, List.set_cons_succ]
        refine wpAnyH_take (i := 24) (v := undef) rfl (by kernel_rfl) (by kernel_rfl) (by kernel_rfl) (fun _ _ _ h => h) (Or.inr ⟨by rfl, rfl⟩) (by assumption) ?_
        try simp only [Act.put, List.getElem_toArray, List.getElem_cons_succ, List.getElem_cons_zero, List.setIfInBounds_toArray, List.set_cons_zero, List.set_cons_succ]
        refine wpAnyH_take (i := 25) (v := undef) rfl (by kernel_rfl) (by kernel_rfl) (by kernel_rfl) (fun _ _ _ h => h) (Or.inr ⟨by rfl, rfl⟩) (by assumption) ?_
        try simp only [Act.put, List.getElem_toArray, List.getElem_cons_succ, List.getElem_cons_zero, List.setIfInBounds_toArray, List.set_cons_zero, List.set_cons_succ]
        refine wpAnyH_take (i := 26) (v := undef) rfl (by kernel_rfl) (by kernel_rfl) (by kernel_rfl) (fun _ _ _ h => h) (Or.inr ⟨by rfl, rfl⟩) (by assumption) ?_
        try simp only [Act.put, List.getElem_toArray, List.getElem_cons_succ, List.getElem_cons_zero, List.setIfInBounds_toArray, List.set_cons_zero, List.set_cons_succ]
        refine wpAnyH_take (i := 27) (v := undef) rfl (by kernel_rfl) (by kernel_rfl) (by kernel_rfl) (fun _ _ _ h => h) (Or.inr ⟨by rfl, rfl⟩) (by assumption) ?_
        try simp only [Act.put, List.getElem_toArray, List.getElem_cons_succ, List.getElem_cons_zero, List.setIfInBounds_toArray, List.set_cons_zero, List.set_cons_succ]
        refine wpAnyH_take (i := 28) (v := (.bool false)) rfl (by kernel_rfl) (by kernel_rfl) (by kernel_rfl) (fun _ _ _ h => h) (Or.inl ⟨by rfl, ?_⟩) (by assumption) ?_
        · intro w9 hSw
          try dsimp only at hSw
          go_simp
          all_goals try decide
          all_goals try assumption
          all_goals try omega
        try simp only [Act.put, List.getElem_toArray, List.getElem_cons_succ, List.getElem_cons_zero, List.setIfInBounds_toArray, List.set_cons_zero, List.set_cons_succ]
        refine wpAnyH_take (i := 29) (v := (.bool false)) rfl (by kernel_rfl) (by kernel_rfl) (by kernel_rfl) (fun _ _ _ h => h) (Or.inl ⟨by rfl, ?_⟩) (by assumption) ?_
        · intro w9 hSw
          try dsimp only at hSw
          go_simp
          all_goals try decide
          all_goals try assumption
          all_goals try omega
        try simp only [Act.put, List.getElem_toArray, List.getElem_cons_succ, List.getElem_cons_zero, List.setIfInBounds_toArray, List.set_cons_zero, List.set_cons_succ]
        refine wpAnyH_done (by kernel_rfl) ?_ _
        have Z7 := hHeld
        have hp7 := blk11 Z7 hp6
        have hq7 := blk11 Z7 hq6
        have B7 := Below.andThen B6 Z7
        clear Z7 hHeld hp6 hq6 B6 q1 hq gF mB
        have u1 := cell_of_row _ _ 1 _ _ _ hq7
        replace u1 := u1.trans (show _ = some (.int .u8 s) from rfl)
        go_wp2_with fail
        exact ⟨⟨i + 1, by omega, by go_num, B7, s, S0, ⟨hp7, hq7⟩⟩, by simp [intOf]; omega⟩
    · obtain ⟨f, t, x, ok, s', HH⟩ := hear_two a0 s fi fn d0 d1 d2 d3 d4 d5 d6 d7 fr OC.out S0.out
      have HT : Hid (H2 a0 s fi fn d0 d1 d2 d3 d4 d5 d6 d7 fr f t x ok s') := HH
      clear HH S0 OC
      have c1 : w4.cell? ⟨b, off + i * 12 + 1, none⟩ = some (.int .u16 fi) := HC.out _ B3 1 _ rfl
      have c2 : w4.cell? ⟨b, off + i * 12 + 2, none⟩ = some (.int .i64 fn) := HC.out _ B3 2 _ rfl
      have c3 : w4.cell? ⟨b, off + i * 12 + 3, none⟩ = some (.int .u8 d0) := HC.out _ B3 3 _ rfl
      have c4 : w4.cell? ⟨b, off + i * 12 + 4, none⟩ = some (.int .u8 d1) := HC.out _ B3 4 _ rfl
      have c5 : w4.cell? ⟨b, off + i * 12 + 5, none⟩ = some (.int .u8 d2) := HC.out _ B3 5 _ rfl
      have c6 : w4.cell? ⟨b, off + i * 12 + 6, none⟩ = some (.int .u8 d3) := HC.out _ B3 6 _ rfl
      have c7 : w4.cell? ⟨b, off + i * 12 + 7, none⟩ = some (.int .u8 d4) := HC.out _ B3 7 _ rfl
      have c8 : w4.cell? ⟨b, off + i * 12 + 8, none⟩ = some (.int .u8 d5) := HC.out _ B3 8 _ rfl
      have c9 : w4.cell? ⟨b, off + i * 12 + 9, none⟩ = some (.int .u8 d6) := HC.out _ B3 9 _ rfl
      have c10 : w4.cell? ⟨b, off + i * 12 + 10, none⟩ = some (.int .u8 d7) := HC.out _ B3 10 _ rfl
      have c11 : w4.cell? ⟨b, off + i * 12 + 11, none⟩ = some (.bool fr) := HC.out _ B3 11 _ rfl
      go_wp2_with fail
      refine (HT.out.own _ _ P3.out.hp).mono ?_
      rintro e w5 ⟨rfl, h5, k5⟩
      clear c1 c2 c3 c4 c5 c6 c7 c8 c9 c10 c11
      have n5 := P3.out.ne
      have q5 : w5.heap[q]? = some (.cells (maC a0 s) 30 (0, 0)) := Kp.at k5 (by simpa using n5) P3.out.hq
      have B5 : Below w.heap.size w w5 := Kp.below B3 k5 B3.size (by intro j hj; simp at hj; have := LP.out; omega)
      clear k5 P3 B3
      have c1 : w5.cell? ⟨b, off + i * 12 + 1, none⟩ = some (.int .u16 fi) := HC.out _ B5 1 _ rfl
      have c2 : w5.cell? ⟨b, off + i * 12 + 2, none⟩ = some (.int .i64 fn) := HC.out _ B5 2 _ rfl
      have c3 : w5.cell? ⟨b, off + i * 12 + 3, none⟩ = some (.int .u8 d0) := HC.out _ B5 3 _ rfl
      have c4 : w5.cell? ⟨b, off + i * 12 + 4, none⟩ = some (.int .u8 d1) := HC.out _ B5 4 _ rfl
      have c5 : w5.cell? ⟨b, off + i * 12 + 5, none⟩ = some (.int .u8 d2) := HC.out _ B5 5 _ rfl
      have c6 : w5.cell? ⟨b, off + i * 12 + 6, none⟩ = some (.int .u8 d3) := HC.out _ B5 6 _ rfl
      have c7 : w5.cell? ⟨b, off + i * 12 + 7, none⟩ = some (.int .u8 d4) := HC.out _ B5 7 _ rfl
      have c8 : w5.cell? ⟨b, off + i * 12 + 8, none⟩ = some (.int .u8 d5) := HC.out _ B5 8 _ rfl
      have c9 : w5.cell? ⟨b, off + i * 12 + 9, none⟩ = some (.int .u8 d6) := HC.out _ B5 9 _ rfl
      have c10 : w5.cell? ⟨b, off + i * 12 + 10, none⟩ = some (.int .u8 d7) := HC.out _ B5 10 _ rfl
      have c11 : w5.cell? ⟨b, off + i * 12 + 11, none⟩ = some (.bool fr) := HC.out _ B5 11 _ rfl
      have bb5 := block_lt_of_cell c1
      go_wp2_with fail
      clear c1 c2 c3 c4 c5 c6 c7 c8 c9 c10 c11 bb5
      have gF := heap_new w5 (.cells (chC f t x) 43)
      have h6 := ext11 (o := .cells (chC f t x) 43) h5
      have q6 := ext11 (o := .cells (chC f t x) 43) q5
      have B6 := Below.al B5 (.cells (chC f t x) 43)
      have l5 : Hid (w.heap.size ≤ w5.heap.size) := B5.size
      have nq : w5.heap.size ≠ q := by have := lt_of_heap q5; omega
      clear h5 q5 B5
      obtain ⟨B, hB⟩ : ∃ B, Hid (B = w5.heap.size) := ⟨_, rfl⟩
      rw [← hB.out] at gF nq l5 ⊢
      clear hB
      refine (HT.out.doc _ _ q6).mono ?_
      rintro e w7 ⟨rfl, q7, k7⟩
      have h7 : w7.heap[p]? = some (.cells (maC a0 s') 57 (0, 0)) := Kp.at k7 (by simpa using fun h => n5 h.symm) h6
      have g7 := Kp.at k7 (by simpa using nq) gF
      have B7 : Below w.heap.size w w7 := Kp.below B6 k7 B6.size (by intro j hj; simp at hj; have := LP.out; omega)
      clear k7 h6 q6 B6 gF
      have e0 : w7.cell? ⟨B, 0, none⟩ = some (.int .u8 f) := by rw [cell_of_row w7 _ 0 _ _ _ g7]; rfl
      have e1 : w7.cell? ⟨B, 1, none⟩ = some (.int .u8 t) := by rw [cell_of_row w7 _ 1 _ _ _ g7]; rfl
      have e2 : w7.cell? ⟨B, 2, none⟩ = some (.int .u8 x) := by rw [cell_of_row w7 _ 2 _ _ _ g7]; rfl
      have lB := lt_of_heap g7
      have hq : ∀ W : World, (binOp .neq 43 (chV f t x) (chV f t x)).run Try.prog W = .ok (.bool false) W := fun W => by rw [neqC]; simp [sameC]
      have P8 : Hid (Pr (w7.alloc (.cells (chC f t x) 43)) p q a0 s') := ⟨ext11 h7, ext11 q7⟩
      have B8 := Below.al B7 (.cells (chC f t x) 43)
      clear h7 q7 g7 B7
      cases ok
      · go_wp2_with fail
        exact ⟨⟨i + 1, by omega, by go_num, B8, s', HT.out.bound, P8⟩, by simp [intOf]; omega⟩
      · go_wp2_with fail
        exact ⟨⟨i + 1, by omega, by go_num, B8, s', HT.out.bound, P8⟩, by simp [intOf]; omega⟩
theorem statePlays_any (a0 : Int) (h0 : 0 ≤ a0) (a : Option Addr) (len cap : Nat) (L : List Hx) (w : World) (o : IsHx w a len L) : Calls Try.prog 3 #[.int .u8 a0, .slice a len cap] w fun e w' => e = .returned (.bool true) ∧ Below w.heap.size w w' := by
  by_cases hl : 100 < len
  · exact plays_many a0 a len cap w hl
  · by_cases h : a0 < 1 ∨ 127 < a0
    · exact plays_bad a0 a len cap w hl h h0
    · exact plays_good a0 a len cap L w o (by omega) (by omega) (by omega)
#print axioms statePlays_any
end Go.Proofs.Ytjfjfohabpjemaa
