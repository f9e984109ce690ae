/-
  The law StateStarts.
-/
import Derived.Test.YtjfjfohabpjemaaHk
namespace Go.Proofs.Ytjfjfohabpjemaa
open Go.RowKit

set_option linter.unusedSimpArgs false in
set_option maxHeartbeats 4000000 in
set_option maxRecDepth 100000 in
theorem nil_hear (i n d0 d1 d2 d3 d4 d5 d6 d7 : Int) (r : Bool) (ho : Oct [d0, d1, d2, d3, d4, d5, d6, d7]) (w : World) : Calls Try.prog 13 #[.pointer none, frV i n d0 d1 d2 d3 d4 d5 d6 d7 r] w fun e w' => e = .returned (.tuple #[chV 0 0 0, .bool false]) ∧ Below w.heap.size w w' := by
  cases hc : cdB i n d0 d1 d2 d3 d4 d5 d6 d7 r with
  | false =>
    have CD := fun W => commanded_no i n d0 d1 d2 d3 d4 d5 d6 d7 r ho hc W
    clear ho hc
    go_enter Try.func13, Try.ntmps13
    go_wp2_with fail
    refine (CD _).mono ?_
    rintro e w1 ⟨rfl, hb⟩
    have B1 : Below w.heap.size w w1 := Below.andThen (by repeat (first | exact Below.refl _ _ | apply Below.drew | apply Below.al)) hb
    have hg : w1.heap[w.heap.size + 1]? = some (.cells (chC 0 0 0) 43 (0, 0)) := (hb.block _ (by simp)).trans (by repeat (first | exact at11 _ _ _ (by simp) | assumption | refine ext11 ?_))
    have lf := lt_of_heap hg
    clear hb CD
    go_wp2_with (refine wpList_store_row rfl 43 _ _ rfl (w.heap.size + 1) (chC 0 0 0) rfl rfl 43 _ hg infoC rfl (chC_one _ _ _) ?_)
    have hc := fun j => cell_of_row (w1.setRow (w.heap.size + 1) (chC 0 0 0)) (w.heap.size + 1) j _ _ _ (setRow_heap _ _ _ _ _ _ hg)
    refine bodyPost_ret (v := .tuple #[chV 0 0 0, .bool false]) ?_ rfl ⟨rfl, below_setRow B1 (by omega) _⟩
    simp [results, Try.results13, go_sem, hc]
  | true =>
    have CD := fun W => commanded_yes i n d0 d1 d2 d3 d4 d5 d6 d7 r ho hc W
    have FL := fun W => nil_follows d1 W
    clear ho hc
    go_enter Try.func13, Try.ntmps13
    go_wp2_with fail
    refine (CD _).mono ?_
    rintro e w1 ⟨rfl, hb⟩
    have B1 : Below w.heap.size w w1 := Below.andThen (by repeat (first | exact Below.refl _ _ | apply Below.drew | apply Below.al)) hb
    have hg : w1.heap[w.heap.size + 1]? = some (.cells (chC 0 0 0) 43 (0, 0)) := (hb.block _ (by simp)).trans (by repeat (first | exact at11 _ _ _ (by simp) | assumption | refine ext11 ?_))
    have lf := lt_of_heap hg
    clear hb CD
    go_wp2_with fail
    refine (FL _).mono ?_
    rintro e w2 ⟨rfl, rfl⟩
    clear FL
    go_wp2_with (refine wpList_store_row rfl 43 _ _ rfl (w.heap.size + 1) (chC 0 0 0) rfl rfl 43 _ hg infoC rfl (chC_one _ _ _) ?_)
    have hc := fun j => cell_of_row (w2.setRow (w.heap.size + 1) (chC 0 0 0)) (w.heap.size + 1) j _ _ _ (setRow_heap _ _ _ _ _ _ hg)
    refine bodyPost_ret (v := .tuple #[chV 0 0 0, .bool false]) ?_ rfl ⟨rfl, below_setRow B1 (by omega) _⟩
    simp [results, Try.results13, go_sem, hc]

/-- What Commanded tells, in letters. -/
theorem commanded_two (i n d0 d1 d2 d3 d4 d5 d6 d7 : Int) (r : Bool) (ho : Oct [d0, d1, d2, d3, d4, d5, d6, d7]) : ∃ cc ca is, (∀ W, Calls Try.prog 17 #[frV i n d0 d1 d2 d3 d4 d5 d6 d7 r] W fun e w' => e = .returned (.tuple #[.int .u8 cc, .int .u8 ca, .bool is]) ∧ Below W.heap.size W w') ∧ ((is = false ∧ cdB i n d0 d1 d2 d3 d4 d5 d6 d7 r = false) ∨ (is = true ∧ cdB i n d0 d1 d2 d3 d4 d5 d6 d7 r = true ∧ d0 = cc ∧ d1 = ca)) := by
  cases hc : cdB i n d0 d1 d2 d3 d4 d5 d6 d7 r with
  | false => exact ⟨0, 0, false, fun W => commanded_no i n d0 d1 d2 d3 d4 d5 d6 d7 r ho hc W, .inl ⟨rfl, rfl⟩⟩
  | true => exact ⟨d0, d1, true, fun W => commanded_yes i n d0 d1 d2 d3 d4 d5 d6 d7 r ho hc W, .inr ⟨rfl, rfl, rfl, rfl⟩⟩
theorem toC_five (c : Int) : toC c = 5 ↔ c = 1 := by
  unfold toC
  by_cases h1 : c = 1
  · simp [h1]
  · rw [if_neg h1]
    by_cases h2 : c = 2
    · simp [h2]
    · rw [if_neg h2]
      by_cases h3 : c = 128
      · simp [h3]
      · rw [if_neg h3]; simp [h1]

set_option linter.unusedSimpArgs false in
set_option maxHeartbeats 4000000 in
set_option maxRecDepth 100000 in
theorem starts_out (a0 : Int) (a : Option Addr) (len cap : Nat) (w : World) (h : 100 < len ∨ a0 < 1 ∨ 127 < a0) : Calls Try.prog 5 #[.int .u8 a0, .slice a len cap] w fun e w' => e = .returned (.bool true) ∧ Below w.heap.size w w' := by
  by_cases h1 : (100 : Int) < (len : Int)
  · clear h
    go_enter Try.func5, Try.ntmps5
    go_wp2_with fail
    refine (works_any _).mono ?_
    rintro e w' ⟨rfl, hb⟩
    go_wp2_with fail
    go_ret
    exact ⟨rfl, hb⟩
  · by_cases h2 : a0 < 1
    · clear h
      go_enter Try.func5, Try.ntmps5
      go_wp2_with fail
      refine (works_any _).mono ?_
      rintro e w' ⟨rfl, hb⟩
      go_wp2_with fail
      go_ret
      exact ⟨rfl, hb⟩
    · have h3 : 127 < a0 := by omega
      clear h
      go_enter Try.func5, Try.ntmps5
      go_wp2_with fail
      refine (works_any _).mono ?_
      rintro e w' ⟨rfl, hb⟩
      go_wp2_with fail
      go_ret
      exact ⟨rfl, hb⟩
set_option linter.unusedSimpArgs false in
set_option maxHeartbeats 4000000 in
set_option maxRecDepth 100000 in
theorem starts_good (a0 : Int) (a : Option Addr) (len cap : Nat) (L : List Hx) (w : World) (o : IsHx w a len L) (hl : len ≤ 100) (h1 : 1 ≤ a0) (h2 : a0 ≤ 127) : Calls Try.prog 5 #[.int .u8 a0, .slice a len cap] w fun e w' => e = .returned (.bool true) ∧ Below w.heap.size w w' := by
  have hl' : ¬ (100 : Int) < (len : Int) := by omega
  have NW := fun W => new_ok a0 h1 h2 W
  have n1 : ¬ a0 < 1 := by omega
  have n2 : ¬ 127 < a0 := by omega
  have A0 : Hid (0 ≤ a0 ∧ a0 < 256) := ⟨by omega, by omega⟩
  have O : Hid (IsHx w a len L) := o
  have lsz := o.size
  clear h1 h2 hl o
  go_enter Try.func5, Try.ntmps5
  go_wp2_with fail
  refine (NW _).mono ?_
  rintro e w1 ⟨rfl, rfl⟩
  clear NW
  go_wp2_with fail
  have B0 : Below w.heap.size w (w.alloc (.cells (maC a0 0) 57)) := (by repeat (first | exact Below.refl _ _ | apply Below.drew | apply Below.al))
  obtain ⟨p, hp⟩ : ∃ p, Hid (p = w.heap.size) := ⟨_, rfl⟩
  have LP : Hid (w.heap.size ≤ p) := by show _ ≤ _; rw [hp.out]; exact Nat.le_refl _
  have P0 : Hid ((w.alloc (.cells (maC a0 0) 57)).heap[p]? = some (.cells (maC a0 0) 57 (0, 0))) := by show _ = _; rw [hp.out]; exact heap_new w _
  generalize hx : (w.alloc (.cells (maC a0 0) 57) : World) = w2 at P0 B0 ⊢
  have ep := hp.out
  rw [← ep]
  clear hx hp ep
  go_loopw [8, 9] (fun v u wr => ∃ (i : Nat) (l : Int), i ≤ len ∧ u = .int .i64 (i : Int) ∧ v = .int .u8 l ∧ Below w.heap.size w wr ∧ ∃ s : Int, Hid (0 ≤ s ∧ s < 256) ∧ Hid (s = 5 ↔ l = 1) ∧ Hid (wr.heap[p]? = some (.cells (maC a0 s) 57 (0, 0)))) (fun _ u _ => len - (intOf u).toNat)
  case atStart => exact ⟨0, 0, Nat.zero_le _, rfl, rfl, B0, 0, ⟨Int.le_refl _, by decide⟩, (by show _ ↔ _; decide), P0⟩
  case round =>
    clear P0 B0
    obtain ⟨i, l, hil, rfl, rfl, B, s, S0, IV, PR⟩ := hrel
    by_cases hlt : i < len
    rotate_left
    · have g1 : ¬ (i : Int) < (len : Int) := by omega
      have hz : ∀ W : World, (binOp .eql 36 zeroF zeroF).run Try.prog W = .ok (.bool true) W := fun W => by rw [eqlF, sameF_self]
      go_wp2_with fail
      refine (nil_state _).mono ?_
      rintro e w3 ⟨rfl, rfl⟩
      go_wp2_with fail
      refine (nil_address _).mono ?_
      rintro e w4 ⟨rfl, rfl⟩
      go_wp2_with fail
      refine (nil_beat _).mono ?_
      rintro e w5 ⟨rfl, hb5⟩
      have B5 := Below.andThen B hb5
      clear hb5
      go_wp2_with fail
      refine (nil_may _ _).mono ?_
      rintro e w6 ⟨rfl, rfl⟩
      go_wp2_with fail
      refine (works_any _).mono ?_
      rintro e w' ⟨rfl, hb⟩
      go_wp2_with fail
      go_ret
      exact ⟨rfl, Below.andThen B5 hb⟩
    have g1 : (i : Int) < (len : Int) := by omega
    obtain ⟨x, hx⟩ : ∃ x, L[i]? = some x := ⟨L[i]'(by omega), List.getElem?_eq_getElem _⟩
    have oct := O.out.good x (List.mem_of_getElem? hx)
    obtain ⟨b, off, e2, hc⟩ := O.out.at_ (by omega)
    subst e2
    have HC : Hid (∀ W, Below w.heap.size w W → ∀ j v, x.C[j]? = some v → W.cell? ⟨b, off + i * 12 + j, none⟩ = some v) := fun W hW j v hv => cl11 hW (hc i x hx j v hv)
    clear hc hx
    obtain ⟨fi, fn, d0, d1, d2, d3, d4, d5, d6, d7, fr, kd⟩ := x
    have OC : Hid (Oct [d0, d1, d2, d3, d4, d5, d6, d7]) := oct
    clear oct
    have wi : IntKind.i64.wrap ((i : Int) + 1) = ((i + 1 : Nat) : Int) := by rw [IntKind.wrap_i64]; omega
    obtain ⟨K, hK⟩ : ∃ K, Hid (K = pickN kd 3) := ⟨_, rfl⟩
    have PK : ∀ W, Calls Try.prog 10 #[.int .i64 kd, .int .i64 3] W fun e w' => e = .returned (.int .i64 K) ∧ w' = W := fun W => by rw [hK.out]; exact pick_any kd 3 (by decide) (by decide) W
    clear hK
    have c0 : wr.cell? ⟨b, off + i * 12, none⟩ = some (.int .i64 kd) := HC.out _ B 0 _ rfl
    go_wp2_with fail
    refine (PK _).mono ?_
    rintro e w4 ⟨rfl, rfl⟩
    clear PK c0
    by_cases hk : K = 2
    · by_cases hs0 : s = 0
      · obtain rfl := hs0
        clear S0 IV
        go_wp2_with fail
        refine (boot_ok PR.out A0.out).mono ?_
        rintro e w5 ⟨rfl, h5, k5⟩
        have B5 : Below w.heap.size w w5 := Kp.below B k5 B.size (by intro j hj; simp at hj; have := LP.out; omega)
        clear k5 PR B
        go_wp2_with fail
        refine (nil_boot _).mono ?_
        rintro e w6 ⟨rfl, hb6⟩
        have h6 := blk11 hb6 (ext11 (o := .cells (frC (1792 + a0) 1 0 0 0 0 0 0 0 0 false) 36) h5)
        have B6 := Below.andThen (Below.al B5 (.cells (frC (1792 + a0) 1 0 0 0 0 0 0 0 0 false) 36)) hb6
        clear hb6 h5 B5
        go_wp2_with fail
        exact ⟨⟨i + 1, 0, by omega, by go_num, rfl, Below.al B6 _, 127, ⟨by decide, by decide⟩, (by show _ ↔ _; decide), ext11 h6⟩, by simp [intOf]; omega⟩
      · go_wp2_with fail
        refine (boot_no PR.out hs0).mono ?_
        rintro e w5 ⟨rfl, hb5⟩
        have h5 := blk11 hb5 PR.out
        have B5 : Below w.heap.size w w5 := Below.andThen B hb5
        clear hb5 PR B
        go_wp2_with fail
        refine (nil_boot _).mono ?_
        rintro e w6 ⟨rfl, hb6⟩
        have h6 := blk11 hb6 (ext11 (o := .cells (frC 0 0 0 0 0 0 0 0 0 0 false) 36) h5)
        have B6 := Below.andThen (Below.al B5 (.cells (frC 0 0 0 0 0 0 0 0 0 0 false) 36)) hb6
        clear hb6 h5 B5
        go_wp2_with fail
        exact ⟨⟨i + 1, l, by omega, by go_num, rfl, Below.al B6 _, s, S0, IV, ext11 h6⟩, by simp [intOf]; omega⟩
    · obtain ⟨f, t, x, ok, s', HH⟩ := hear_two a0 s fi fn d0 d1 d2 d3 d4 d5 d6 d7 fr OC.out S0.out
      have HT : Hid (H2 a0 s fi fn d0 d1 d2 d3 d4 d5 d6 d7 fr f t x ok s') := HH
      obtain ⟨cc, ca, is, CD0, CW0⟩ := commanded_two fi fn d0 d1 d2 d3 d4 d5 d6 d7 fr OC.out
      have CD : Hid (∀ W, Calls Try.prog 17 #[frV fi fn d0 d1 d2 d3 d4 d5 d6 d7 fr] W fun e w' => e = .returned (.tuple #[.int .u8 cc, .int .u8 ca, .bool is]) ∧ Below W.heap.size W w') := CD0
      have CW : Hid ((is = false ∧ cdB fi fn d0 d1 d2 d3 d4 d5 d6 d7 fr = false) ∨ (is = true ∧ cdB fi fn d0 d1 d2 d3 d4 d5 d6 d7 fr = true ∧ d0 = cc ∧ d1 = ca)) := CW0
      clear HH S0 CD0 CW0
      have c1 : w4.cell? ⟨b, off + i * 12 + 1, none⟩ = some (.int .u16 fi) := HC.out _ B 1 _ rfl
      have c2 : w4.cell? ⟨b, off + i * 12 + 2, none⟩ = some (.int .i64 fn) := HC.out _ B 2 _ rfl
      have c3 : w4.cell? ⟨b, off + i * 12 + 3, none⟩ = some (.int .u8 d0) := HC.out _ B 3 _ rfl
      have c4 : w4.cell? ⟨b, off + i * 12 + 4, none⟩ = some (.int .u8 d1) := HC.out _ B 4 _ rfl
      have c5 : w4.cell? ⟨b, off + i * 12 + 5, none⟩ = some (.int .u8 d2) := HC.out _ B 5 _ rfl
      have c6 : w4.cell? ⟨b, off + i * 12 + 6, none⟩ = some (.int .u8 d3) := HC.out _ B 6 _ rfl
      have c7 : w4.cell? ⟨b, off + i * 12 + 7, none⟩ = some (.int .u8 d4) := HC.out _ B 7 _ rfl
      have c8 : w4.cell? ⟨b, off + i * 12 + 8, none⟩ = some (.int .u8 d5) := HC.out _ B 8 _ rfl
      have c9 : w4.cell? ⟨b, off + i * 12 + 9, none⟩ = some (.int .u8 d6) := HC.out _ B 9 _ rfl
      have c10 : w4.cell? ⟨b, off + i * 12 + 10, none⟩ = some (.int .u8 d7) := HC.out _ B 10 _ rfl
      have c11 : w4.cell? ⟨b, off + i * 12 + 11, none⟩ = some (.bool fr) := HC.out _ B 11 _ rfl
      go_wp2_with fail
      clear c1 c2 c3 c4 c5 c6 c7 c8 c9 c10 c11
      refine (nil_hear fi fn d0 d1 d2 d3 d4 d5 d6 d7 fr OC.out _).mono ?_
      rintro e w5 ⟨rfl, hb5⟩
      have h5 := blk11 hb5 PR.out
      have B5 := Below.andThen B hb5
      clear hb5 PR B OC
      go_wp2_with fail
      have h6 := ext11 (o := .cells (chC 0 0 0) 43) h5
      have B6 := Below.al B5 (.cells (chC 0 0 0) 43)
      generalize hx : (w5.alloc (.cells (chC 0 0 0) 43) : World) = w6 at h6 B6 ⊢
      clear hx h5 B5
      refine (state_at h6).mono ?_
      rintro e w7 ⟨rfl, rfl⟩
      have c1 : w7.cell? ⟨b, off + i * 12 + 1, none⟩ = some (.int .u16 fi) := HC.out _ B6 1 _ rfl
      have c2 : w7.cell? ⟨b, off + i * 12 + 2, none⟩ = some (.int .i64 fn) := HC.out _ B6 2 _ rfl
      have c3 : w7.cell? ⟨b, off + i * 12 + 3, none⟩ = some (.int .u8 d0) := HC.out _ B6 3 _ rfl
      have c4 : w7.cell? ⟨b, off + i * 12 + 4, none⟩ = some (.int .u8 d1) := HC.out _ B6 4 _ rfl
      have c5 : w7.cell? ⟨b, off + i * 12 + 5, none⟩ = some (.int .u8 d2) := HC.out _ B6 5 _ rfl
      have c6 : w7.cell? ⟨b, off + i * 12 + 6, none⟩ = some (.int .u8 d3) := HC.out _ B6 6 _ rfl
      have c7 : w7.cell? ⟨b, off + i * 12 + 7, none⟩ = some (.int .u8 d4) := HC.out _ B6 7 _ rfl
      have c8 : w7.cell? ⟨b, off + i * 12 + 8, none⟩ = some (.int .u8 d5) := HC.out _ B6 8 _ rfl
      have c9 : w7.cell? ⟨b, off + i * 12 + 9, none⟩ = some (.int .u8 d6) := HC.out _ B6 9 _ rfl
      have c10 : w7.cell? ⟨b, off + i * 12 + 10, none⟩ = some (.int .u8 d7) := HC.out _ B6 10 _ rfl
      have c11 : w7.cell? ⟨b, off + i * 12 + 11, none⟩ = some (.bool fr) := HC.out _ B6 11 _ rfl
      go_wp2_with fail
      clear c1 c2 c3 c4 c5 c6 c7 c8 c9 c10 c11
      refine (HT.out.own _ _ h6).mono ?_
      rintro e w8 ⟨rfl, h8, k8⟩
      have B8 : Below w.heap.size w w8 := Kp.below B6 k8 B6.size (by intro j hj; simp at hj; have := LP.out; omega)
      clear k8 h6 B6
      have c1 : w8.cell? ⟨b, off + i * 12 + 1, none⟩ = some (.int .u16 fi) := HC.out _ B8 1 _ rfl
      have c2 : w8.cell? ⟨b, off + i * 12 + 2, none⟩ = some (.int .i64 fn) := HC.out _ B8 2 _ rfl
      have c3 : w8.cell? ⟨b, off + i * 12 + 3, none⟩ = some (.int .u8 d0) := HC.out _ B8 3 _ rfl
      have c4 : w8.cell? ⟨b, off + i * 12 + 4, none⟩ = some (.int .u8 d1) := HC.out _ B8 4 _ rfl
      have c5 : w8.cell? ⟨b, off + i * 12 + 5, none⟩ = some (.int .u8 d2) := HC.out _ B8 5 _ rfl
      have c6 : w8.cell? ⟨b, off + i * 12 + 6, none⟩ = some (.int .u8 d3) := HC.out _ B8 6 _ rfl
      have c7 : w8.cell? ⟨b, off + i * 12 + 7, none⟩ = some (.int .u8 d4) := HC.out _ B8 7 _ rfl
      have c8 : w8.cell? ⟨b, off + i * 12 + 8, none⟩ = some (.int .u8 d5) := HC.out _ B8 8 _ rfl
      have c9 : w8.cell? ⟨b, off + i * 12 + 9, none⟩ = some (.int .u8 d6) := HC.out _ B8 9 _ rfl
      have c10 : w8.cell? ⟨b, off + i * 12 + 10, none⟩ = some (.int .u8 d7) := HC.out _ B8 10 _ rfl
      have c11 : w8.cell? ⟨b, off + i * 12 + 11, none⟩ = some (.bool fr) := HC.out _ B8 11 _ rfl
      have bb8 := block_lt_of_cell c1
      go_wp2_with fail
      clear c1 c2 c3 c4 c5 c6 c7 c8 c9 c10 c11 bb8
      have g9 := heap_new w8 (.cells (chC f t x) 43)
      have h9 := ext11 (o := .cells (chC f t x) 43) h8
      have B9 := Below.al B8 (.cells (chC f t x) 43)
      clear h8 B8
      obtain ⟨B, hB⟩ : ∃ B, Hid (B = w8.heap.size) := ⟨_, rfl⟩
      rw [← hB.out] at g9 ⊢
      clear hB
      refine (CD.out _).mono ?_
      rintro e w10 ⟨rfl, hb⟩
      have g10 := blk11 hb g9
      have h10 := blk11 hb h9
      have B10 := Below.andThen B9 hb
      clear hb g9 h9 B9 CD
      have bd := HT.out.bound
      have wh := HT.out.what
      have cw := CW.out
      clear HT CW
      rcases cw with ⟨rfl, hcd⟩ | ⟨rfl, hcd, rfl, rfl⟩
      · have wh : ok = false ∧ s' = s := by
          rcases wh with ⟨h1, h2, _⟩ | ⟨_, _, _, _, h3, _⟩
          · exact ⟨h1, h2⟩
          · rw [hcd] at h3; cases h3
        obtain ⟨rfl, e⟩ := wh
        have e := e.symm
        subst e
        clear hcd
        by_cases h5 : s = 5
        · have l1 : l = 1 := IV.out.1 h5
          have v5 : (s == 5) = true := by simp [h5]
          have v1 : (l == 1) = true := by simp [l1]
          clear h5 l1
          go_wp2_with fail
          refine (state_at h10).mono ?_
          rintro e w11 ⟨rfl, rfl⟩
          go_wp2_with fail
          exact ⟨⟨i + 1, l, by omega, by go_num, rfl, B10, s, bd, IV, h10⟩, by simp [intOf]; omega⟩
        · have l1 : ¬ l = 1 := fun e => h5 (IV.out.2 e)
          have v5 : (s == 5) = false := by simp [h5]
          have v1 : (l == 1) = false := by simp [l1]
          clear h5 l1
          go_wp2_with fail
          refine (state_at h10).mono ?_
          rintro e w11 ⟨rfl, rfl⟩
          go_wp2_with fail
          exact ⟨⟨i + 1, l, by omega, by go_num, rfl, B10, s, bd, IV, h10⟩, by simp [intOf]; omega⟩
      · rcases wh with ⟨rfl, e, h3⟩ | ⟨rfl, rfl, rfl, e5, _, hf⟩
        · have e := e.symm
          subst e
          have hf : folB a0 s d1 = false := by rw [hcd] at h3; simpa using h3
          clear h3 hcd
          by_cases q1 : d1 = 0
          · have hs : s = 0 := by
              by_cases hs : s = 0
              · exact hs
              · simp [folB, q1, hs] at hf
            clear hf
            have h5 : ¬ s = 5 := by omega
            have l1 : ¬ l = 1 := fun e => h5 (IV.out.2 e)
            have v1 : (l == 1) = false := by simp [l1]
            clear l1
            go_wp2_with fail
            refine (state_at h10).mono ?_
            rintro e w11 ⟨rfl, rfl⟩
            go_wp2_with fail
            exact ⟨⟨i + 1, l, by omega, by go_num, rfl, B10, s, bd, IV, h10⟩, by simp [intOf]; omega⟩
          · by_cases q2 : d1 = a0
            · have hs : s = 0 := by
                by_cases hs : s = 0
                · exact hs
                · simp [folB, q2, hs] at hf
              clear hf
              have h5 : ¬ s = 5 := by omega
              have l1 : ¬ l = 1 := fun e => h5 (IV.out.2 e)
              have v1 : (l == 1) = false := by simp [l1]
              clear l1
              go_wp2_with fail
              refine (state_at h10).mono ?_
              rintro e w11 ⟨rfl, rfl⟩
              go_wp2_with fail
              exact ⟨⟨i + 1, l, by omega, by go_num, rfl, B10, s, bd, IV, h10⟩, by simp [intOf]; omega⟩
            · clear hf
              by_cases h5 : s = 5
              · have l1 : l = 1 := IV.out.1 h5
                have v5 : (s == 5) = true := by simp [h5]
                have v1 : (l == 1) = true := by simp [l1]
                clear h5 l1
                go_wp2_with fail
                refine (state_at h10).mono ?_
                rintro e w11 ⟨rfl, rfl⟩
                go_wp2_with fail
                exact ⟨⟨i + 1, l, by omega, by go_num, rfl, B10, s, bd, IV, h10⟩, by simp [intOf]; omega⟩
              · have l1 : ¬ l = 1 := fun e => h5 (IV.out.2 e)
                have v5 : (s == 5) = false := by simp [h5]
                have v1 : (l == 1) = false := by simp [l1]
                clear h5 l1
                go_wp2_with fail
                refine (state_at h10).mono ?_
                rintro e w11 ⟨rfl, rfl⟩
                go_wp2_with fail
                exact ⟨⟨i + 1, l, by omega, by go_num, rfl, B10, s, bd, IV, h10⟩, by simp [intOf]; omega⟩
        · have TT : Hid (t = 5 ↔ d0 = 1) := by show _ ↔ _; rw [e5]; exact toC_five d0
          obtain ⟨T, hT⟩ : ∃ T, Hid (T = t) := ⟨_, rfl⟩
          rw [← hT.out] at TT h10 g10 bd
          clear hT e5 hcd
          have e0 : w10.cell? ⟨B, 0, none⟩ = some (.int .u8 f) := by rw [cell_of_row w10 _ 0 _ _ _ g10]; rfl
          have e1 : w10.cell? ⟨B, 1, none⟩ = some (.int .u8 T) := by rw [cell_of_row w10 _ 1 _ _ _ g10]; rfl
          have hs : (f != 0) = true := by cases h : (f == 0) <;> first | (simp [bne, h]; done) | (simp [folB, h] at hf)
          by_cases q1 : d1 = 0
          · clear hf
            go_wp2_with fail
            refine wp_region_held_drew (S := fun x1 => Below w10.heap.size w10 x1) (by kernel_rfl) (Below.drew (Below.refl _ _)) (fun hHeld => ?_)
            refine wpAnyH_take (i := 0) (v := (.pointer (some ⟨B, 0, none⟩))) rfl (by kernel_rfl) (by kernel_rfl) (by kernel_rfl) (fun _ _ _ h => h) (Or.inl ⟨by rfl, ?_⟩) (by assumption) ?_
            · intro w9 hSw
              try dsimp only at hSw
              go_simp
              all_goals try decide
              all_goals try assumption
              all_goals try omega
            try simp only [Act.put, List.getElem_toArray, List.getElem_cons_succ, List.getElem_cons_zero, List.setIfInBounds_toArray, List.set_cons_zero, List.set_cons_succ]
            refine wpAnyH_take (i := 1) (v := (.int .u8 f)) rfl (by kernel_rfl) (by kernel_rfl) (by kernel_rfl) (fun _ _ _ h => h) (Or.inl ⟨by rfl, ?_⟩) (by assumption) ?_
            · intro w9 hSw
              try dsimp only at hSw
              have hc9 := cl11 hSw e0
              go_simp
              all_goals try decide
              all_goals try assumption
              all_goals try omega
            try simp only [Act.put, List.getElem_toArray, List.getElem_cons_succ, List.getElem_cons_zero, List.setIfInBounds_toArray, List.set_cons_zero, List.set_cons_succ]
            refine wpAnyH_take (i := 2) (v := (.int .u8 f)) rfl (by kernel_rfl) (by kernel_rfl) (by kernel_rfl) (fun _ _ _ h => h) (Or.inl ⟨by rfl, ?_⟩) (by assumption) ?_
            · intro w9 hSw
              try dsimp only at hSw
              go_simp
              all_goals try decide
              all_goals try assumption
              all_goals try omega
            try simp only [Act.put, List.getElem_toArray, List.getElem_cons_succ, List.getElem_cons_zero, List.setIfInBounds_toArray, List.set_cons_zero, List.set_cons_succ]
            refine wpAnyH_take (i := 3) (v := (.bool false)) rfl (by kernel_rfl) (by kernel_rfl) (by kernel_rfl) (fun _ _ _ h => h) (Or.inl ⟨by rfl, ?_⟩) (by assumption) ?_
            · intro w9 hSw
              try dsimp only at hSw
              go_simp
              all_goals try decide
              all_goals try assumption
              all_goals try omega
            try simp only [Act.put, List.getElem_toArray, List.getElem_cons_succ, List.getElem_cons_zero, List.setIfInBounds_toArray, List.set_cons_zero, List.set_cons_succ]
            refine wpAnyH_take (i := 4) (v := (.bool false)) rfl (by kernel_rfl) (by kernel_rfl) (by kernel_rfl) (fun _ _ _ h => h) (Or.inl ⟨by rfl, ?_⟩) (by assumption) ?_
            · intro w9 hSw
              try dsimp only at hSw
              go_simp
              all_goals try decide
              all_goals try assumption
              all_goals try omega
            try simp only [Act.put, List.getElem_toArray, List.getElem_cons_succ, List.getElem_cons_zero, List.setIfInBounds_toArray, List.set_cons_zero, List.set_cons_succ]
            refine wpAnyH_take (i := 5) (v := (.pointer (some ⟨B, 1, none⟩))) rfl (by kernel_rfl) (by kernel_rfl) (by kernel_rfl) (fun _ _ _ h => h) (Or.inl ⟨by rfl, ?_⟩) (by assumption) ?_
            · intro w9 hSw
              try dsimp only at hSw
              go_simp
              all_goals try decide
              all_goals try assumption
              all_goals try omega
            try simp only [Act.put, List.getElem_toArray, List.getElem_cons_succ, List.getElem_cons_zero, List.setIfInBounds_toArray, List.set_cons_zero, List.set_cons_succ]
            refine wpAnyH_take (i := 6) (v := (.int .u8 T)) rfl (by kernel_rfl) (by kernel_rfl) (by kernel_rfl) (fun _ _ _ h => h) (Or.inl ⟨by rfl, ?_⟩) (by assumption) ?_
            · intro w9 hSw
              try dsimp only at hSw
              have hc9 := cl11 hSw e1
              go_simp
              all_goals try decide
              all_goals try assumption
              all_goals try omega
            try simp only [Act.put, List.getElem_toArray, List.getElem_cons_succ, List.getElem_cons_zero, List.setIfInBounds_toArray, List.set_cons_zero, List.set_cons_succ]
            refine wpAnyH_take (i := 7) (v := (.pointer (some ⟨p, 0, none⟩))) rfl (by kernel_rfl) (by kernel_rfl) (by kernel_rfl) (fun _ _ _ h => h) (Or.inl ⟨by rfl, ?_⟩) (by assumption) ?_
            · intro w9 hSw
              try dsimp only at hSw
              go_simp
              all_goals try decide
              all_goals try assumption
              all_goals try omega
            try simp only [Act.put, List.getElem_toArray, List.getElem_cons_succ, List.getElem_cons_zero, List.setIfInBounds_toArray, List.set_cons_zero, List.set_cons_succ]
            refine wpAnyH_ready (rs := [8]) (by kernel_rfl) (by simp) ?_
            refine AllReadyH.cons rfl (fun K' hK => ?_) AllReadyH.nil
            rw [if_pos (by rfl)]
            simp only [List.getElem_toArray, List.getElem_cons_succ, List.getElem_cons_zero]
            have S1 := hHeld
            go_wp2_with fail
            refine (state_at (blk11 S1 h10)).mono ?_
            rintro e wq ⟨rfl, rfl⟩
            try go_wp2_with fail
            refine hK.out _ _ (S1) (fun hHeld => ?_)
            clear hK K'
            try simp only [Act.put, List.getElem_toArray, List.getElem_cons_succ, List.getElem_cons_zero, List.setIfInBounds_toArray, List.set_cons_zero, List.set_cons_succ]
            clear S1
            refine wpAnyH_take (i := 9) (v := (.bool false)) rfl (by kernel_rfl) (by kernel_rfl) (by kernel_rfl) (fun _ _ _ h => h) (Or.inl ⟨by rfl, ?_⟩) (by assumption) ?_
            · intro w9 hSw
              try dsimp only at hSw
              go_simp
              all_goals try decide
              all_goals try assumption
              all_goals try omega
            try simp only [Act.put, List.getElem_toArray, List.getElem_cons_succ, List.getElem_cons_zero, List.setIfInBounds_toArray, List.set_cons_zero, List.set_cons_succ]
            refine wpAnyH_take (i := 10) (v := (.bool false)) rfl (by kernel_rfl) (by kernel_rfl) (by kernel_rfl) (fun _ _ _ h => h) (Or.inl ⟨by rfl, ?_⟩) (by assumption) ?_
            · intro w9 hSw
              try dsimp only at hSw
              go_simp
              all_goals try decide
              all_goals try assumption
              all_goals try omega
            try simp only [Act.put, List.getElem_toArray, List.getElem_cons_succ, List.getElem_cons_zero, List.setIfInBounds_toArray, List.set_cons_zero, List.set_cons_succ]
            refine wpAnyH_done (by kernel_rfl) ?_ _
            have h11 := blk11 hHeld h10
            have B11 := Below.andThen B10 hHeld
            clear hHeld h10 B10 g10 e0 e1
            by_cases h5 : d0 = 1
            · have t5 : T = 5 := TT.out.2 h5
              have v5 : (T == 5) = true := by simp [t5]
              have v1 : (d0 == 1) = true := by simp [h5]
              clear t5 h5
              go_wp2_with fail
              refine (state_at h11).mono ?_
              rintro e w11 ⟨rfl, rfl⟩
              go_wp2_with fail
              exact ⟨⟨i + 1, d0, by omega, by go_num, rfl, B11, T, bd, TT, h11⟩, by simp [intOf]; omega⟩
            · have t5 : ¬ T = 5 := fun e => h5 (TT.out.1 e)
              have v5 : (T == 5) = false := by simp [t5]
              have v1 : (d0 == 1) = false := by simp [h5]
              clear t5 h5
              go_wp2_with fail
              refine (state_at h11).mono ?_
              rintro e w11 ⟨rfl, rfl⟩
              go_wp2_with fail
              exact ⟨⟨i + 1, d0, by omega, by go_num, rfl, B11, T, bd, TT, h11⟩, by simp [intOf]; omega⟩
          · have q2 : d1 = a0 := by
              by_cases q2 : d1 = a0
              · exact q2
              · simp [folB, q1, q2] at hf
            clear hf
            go_wp2_with fail
            refine wp_region_held_drew (S := fun x1 => Below w10.heap.size w10 x1) (by kernel_rfl) (Below.drew (Below.refl _ _)) (fun hHeld => ?_)
            refine wpAnyH_take (i := 0) (v := (.pointer (some ⟨B, 0, none⟩))) rfl (by kernel_rfl) (by kernel_rfl) (by kernel_rfl) (fun _ _ _ h => h) (Or.inl ⟨by rfl, ?_⟩) (by assumption) ?_
            · intro w9 hSw
              try dsimp only at hSw
              go_simp
              all_goals try decide
              all_goals try assumption
              all_goals try omega
            try simp only [Act.put, List.getElem_toArray, List.getElem_cons_succ, List.getElem_cons_zero, List.setIfInBounds_toArray, List.set_cons_zero, List.set_cons_succ]
            refine wpAnyH_take (i := 1) (v := (.int .u8 f)) rfl (by kernel_rfl) (by kernel_rfl) (by kernel_rfl) (fun _ _ _ h => h) (Or.inl ⟨by rfl, ?_⟩) (by assumption) ?_
            · intro w9 hSw
              try dsimp only at hSw
              have hc9 := cl11 hSw e0
              go_simp
              all_goals try decide
              all_goals try assumption
              all_goals try omega
            try simp only [Act.put, List.getElem_toArray, List.getElem_cons_succ, List.getElem_cons_zero, List.setIfInBounds_toArray, List.set_cons_zero, List.set_cons_succ]
            refine wpAnyH_take (i := 2) (v := (.int .u8 f)) rfl (by kernel_rfl) (by kernel_rfl) (by kernel_rfl) (fun _ _ _ h => h) (Or.inl ⟨by rfl, ?_⟩) (by assumption) ?_
            · intro w9 hSw
              try dsimp only at hSw
              go_simp
              all_goals try decide
              all_goals try assumption
              all_goals try omega
            try simp only [Act.put, List.getElem_toArray, List.getElem_cons_succ, List.getElem_cons_zero, List.setIfInBounds_toArray, List.set_cons_zero, List.set_cons_succ]
            refine wpAnyH_take (i := 3) (v := (.bool false)) rfl (by kernel_rfl) (by kernel_rfl) (by kernel_rfl) (fun _ _ _ h => h) (Or.inl ⟨by rfl, ?_⟩) (by assumption) ?_
            · intro w9 hSw
              try dsimp only at hSw
              go_simp
              all_goals try decide
              all_goals try assumption
              all_goals try omega
            try simp only [Act.put, List.getElem_toArray, List.getElem_cons_succ, List.getElem_cons_zero, List.setIfInBounds_toArray, List.set_cons_zero, List.set_cons_succ]
            refine wpAnyH_take (i := 4) (v := (.bool false)) rfl (by kernel_rfl) (by kernel_rfl) (by kernel_rfl) (fun _ _ _ h => h) (Or.inl ⟨by rfl, ?_⟩) (by assumption) ?_
            · intro w9 hSw
              try dsimp only at hSw
              go_simp
              all_goals try decide
              all_goals try assumption
              all_goals try omega
            try simp only [Act.put, List.getElem_toArray, List.getElem_cons_succ, List.getElem_cons_zero, List.setIfInBounds_toArray, List.set_cons_zero, List.set_cons_succ]
            refine wpAnyH_take (i := 5) (v := (.pointer (some ⟨B, 1, none⟩))) rfl (by kernel_rfl) (by kernel_rfl) (by kernel_rfl) (fun _ _ _ h => h) (Or.inl ⟨by rfl, ?_⟩) (by assumption) ?_
            · intro w9 hSw
              try dsimp only at hSw
              go_simp
              all_goals try decide
              all_goals try assumption
              all_goals try omega
            try simp only [Act.put, List.getElem_toArray, List.getElem_cons_succ, List.getElem_cons_zero, List.setIfInBounds_toArray, List.set_cons_zero, List.set_cons_succ]
            refine wpAnyH_take (i := 6) (v := (.int .u8 T)) rfl (by kernel_rfl) (by kernel_rfl) (by kernel_rfl) (fun _ _ _ h => h) (Or.inl ⟨by rfl, ?_⟩) (by assumption) ?_
            · intro w9 hSw
              try dsimp only at hSw
              have hc9 := cl11 hSw e1
              go_simp
              all_goals try decide
              all_goals try assumption
              all_goals try omega
            try simp only [Act.put, List.getElem_toArray, List.getElem_cons_succ, List.getElem_cons_zero, List.setIfInBounds_toArray, List.set_cons_zero, List.set_cons_succ]
            refine wpAnyH_take (i := 7) (v := (.pointer (some ⟨p, 0, none⟩))) rfl (by kernel_rfl) (by kernel_rfl) (by kernel_rfl) (fun _ _ _ h => h) (Or.inl ⟨by rfl, ?_⟩) (by assumption) ?_
            · intro w9 hSw
              try dsimp only at hSw
              go_simp
              all_goals try decide
              all_goals try assumption
              all_goals try omega
            try simp only [Act.put, List.getElem_toArray, List.getElem_cons_succ, List.getElem_cons_zero, List.setIfInBounds_toArray, List.set_cons_zero, List.set_cons_succ]
            refine wpAnyH_ready (rs := [8]) (by kernel_rfl) (by simp) ?_
            refine AllReadyH.cons rfl (fun K' hK => ?_) AllReadyH.nil
            rw [if_pos (by rfl)]
            simp only [List.getElem_toArray, List.getElem_cons_succ, List.getElem_cons_zero]
            have S1 := hHeld
            go_wp2_with fail
            refine (state_at (blk11 S1 h10)).mono ?_
            rintro e wq ⟨rfl, rfl⟩
            try go_wp2_with fail
            refine hK.out _ _ (S1) (fun hHeld => ?_)
            clear hK K'
            try simp only [Act.put, List.getElem_toArray, List.getElem_cons_succ, List.getElem_cons_zero, List.setIfInBounds_toArray, List.set_cons_zero, List.set_cons_succ]
            clear S1
            refine wpAnyH_take (i := 9) (v := (.bool false)) rfl (by kernel_rfl) (by kernel_rfl) (by kernel_rfl) (fun _ _ _ h => h) (Or.inl ⟨by rfl, ?_⟩) (by assumption) ?_
            · intro w9 hSw
              try dsimp only at hSw
              go_simp
              all_goals try decide
              all_goals try assumption
              all_goals try omega
            try simp only [Act.put, List.getElem_toArray, List.getElem_cons_succ, List.getElem_cons_zero, List.setIfInBounds_toArray, List.set_cons_zero, List.set_cons_succ]
            refine wpAnyH_take (i := 10) (v := (.bool false)) rfl (by kernel_rfl) (by kernel_rfl) (by kernel_rfl) (fun _ _ _ h => h) (Or.inl ⟨by rfl, ?_⟩) (by assumption) ?_
            · intro w9 hSw
              try dsimp only at hSw
              go_simp
              all_goals try decide
              all_goals try assumption
              all_goals try omega
            try simp only [Act.put, List.getElem_toArray, List.getElem_cons_succ, List.getElem_cons_zero, List.setIfInBounds_toArray, List.set_cons_zero, List.set_cons_succ]
            refine wpAnyH_done (by kernel_rfl) ?_ _
            have h11 := blk11 hHeld h10
            have B11 := Below.andThen B10 hHeld
            clear hHeld h10 B10 g10 e0 e1
            by_cases h5 : d0 = 1
            · have t5 : T = 5 := TT.out.2 h5
              have v5 : (T == 5) = true := by simp [t5]
              have v1 : (d0 == 1) = true := by simp [h5]
              clear t5 h5
              go_wp2_with fail
              refine (state_at h11).mono ?_
              rintro e w11 ⟨rfl, rfl⟩
              go_wp2_with fail
              exact ⟨⟨i + 1, d0, by omega, by go_num, rfl, B11, T, bd, TT, h11⟩, by simp [intOf]; omega⟩
            · have t5 : ¬ T = 5 := fun e => h5 (TT.out.1 e)
              have v5 : (T == 5) = false := by simp [t5]
              have v1 : (d0 == 1) = false := by simp [h5]
              clear t5 h5
              go_wp2_with fail
              refine (state_at h11).mono ?_
              rintro e w11 ⟨rfl, rfl⟩
              go_wp2_with fail
              exact ⟨⟨i + 1, d0, by omega, by go_num, rfl, B11, T, bd, TT, h11⟩, by simp [intOf]; omega⟩
theorem stateStarts_any (a0 : Int) (_ : 0 ≤ a0) (a : Option Addr) (len cap : Nat) (L : List Hx) (w : World) (o : IsHx w a len L) : Calls Try.prog 5 #[.int .u8 a0, .slice a len cap] w fun e w' => e = .returned (.bool true) ∧ Below w.heap.size w w' := by
  by_cases h : 100 < len ∨ a0 < 1 ∨ 127 < a0
  · exact starts_out a0 a len cap w h
  · exact starts_good a0 a len cap L w o (by omega) (by omega) (by omega)
#print axioms stateStarts_any
end Go.Proofs.Ytjfjfohabpjemaa
