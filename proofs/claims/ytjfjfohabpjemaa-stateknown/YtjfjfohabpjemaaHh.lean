/-
  The walks of the law's works and tells, and of Pick.
-/
import Derived.Test.YtjfjfohabpjemaaHg
namespace Go.Proofs.Ytjfjfohabpjemaa
open Go.RowKit

/-- A number brought from 0 up to another. -/
def pickN (x k : Int) : Int := (x.tmod k + k).tmod k
theorem pickN_in (x k : Int) (h : 0 < k) : 0 ≤ pickN x k ∧ pickN x k < k := by
  unfold pickN
  have h1 := Int.lt_tmod_of_pos x h
  refine ⟨Int.tmod_nonneg _ (by omega), Int.tmod_lt_of_pos _ h⟩

set_option linter.unusedSimpArgs false in
set_option maxHeartbeats 4000000 in
set_option maxRecDepth 100000 in
theorem pick_any (x k : Int) (h0 : 0 < k) (h1 : k ≤ 100000) (w : World) : Calls Try.prog 10 #[.int .i64 x, .int .i64 k] w fun e w' => e = .returned (.int .i64 (pickN x k)) ∧ w' = w := by
  have a1 := Int.lt_tmod_of_pos x h0
  have a2 := Int.tmod_lt_of_pos x h0
  have g1 : ¬ k ≤ 0 := by omega
  have g2 : ¬ k = 0 := by omega
  obtain ⟨m, hm⟩ : ∃ m, m = x.tmod k := ⟨_, rfl⟩
  have hq := pickN_in x k h0
  have w2 : IntKind.i64.wrap (x.tmod k + k) = m + k := by rw [← hm, IntKind.wrap_i64]; rw [← hm] at a1 a2; omega
  obtain ⟨q, hq2⟩ : ∃ q, q = pickN x k := ⟨_, rfl⟩
  have w3 : (m + k).tmod k = q := by rw [hq2, hm]; rfl
  rw [← hq2] at hq ⊢
  have w1 : IntKind.i64.wrap m = m := by rw [← hm] at a1 a2; rw [IntKind.wrap_i64]; omega
  have w1' : IntKind.i64.wrap (x.tmod k) = m := by rw [← hm]; exact w1
  have w4 : IntKind.i64.wrap q = q := by rw [IntKind.wrap_i64]; omega
  have w5 : IntKind.i64.wrap (m + k) = m + k := by rw [← hm] at w2; exact w2
  rw [← hm] at w2
  clear hq2 a1 a2
  go_enter Try.func10, Try.ntmps10
  go_wp2_with fail
  go_ret
  refine ⟨?_, rfl⟩
  rw [show wrap64 (x.tmod k + k) = m + k from by rw [← hm]; exact (IntWalk.i64_left _).symm.trans w2, w3]
  rfl

set_option linter.unusedSimpArgs false in
set_option maxHeartbeats 4000000 in
set_option maxRecDepth 100000 in
theorem works_any (w : World) : Calls Try.prog 8 #[] w fun e w' => e = .returned (.bool true) ∧ Below w.heap.size w w' := by
  have NW := fun W => new_ok 5 (by decide) (by decide) W
  have SA : Hid (∀ (W : World) (p : Nat), W.heap[p]? = some (.cells (maC 5 0) 57 (0, 0)) → Calls Try.prog 19 #[pt p] W fun e w' => e = .returned (.int .u8 0) ∧ w' = W) := fun W p h => state_at h
  have BO : Hid (∀ (W : World) (p : Nat), W.heap[p]? = some (.cells (maC 5 0) 57 (0, 0)) → Calls Try.prog 11 #[pt p] W fun e w' => e = .returned (.tuple #[frV 1797 1 0 0 0 0 0 0 0 0 false, .int .i64 0]) ∧ w'.heap[p]? = some (.cells (maC 5 127) 57 (0, 0)) ∧ Kp [p] W w') := fun W p h => boot_ok h (by decide)
  have CM := fun W => command_ok 1 0 (by decide) (by decide) (by decide) W
  have HE : Hid (∀ (W : World) (p : Nat), W.heap[p]? = some (.cells (maC 5 127) 57 (0, 0)) → Calls Try.prog 13 #[pt p, frV 0 2 1 0 0 0 0 0 0 0 false] W fun e w' => e = .returned (.tuple #[chV 127 5 0, .bool true]) ∧ w'.heap[p]? = some (.cells (maC 5 5) 57 (0, 0)) ∧ Kp [p] W w') := fun W p h => hear_yes h 0 2 1 0 0 0 0 0 0 0 false (by intro x hx; simp at hx; rcases hx with rfl | rfl <;> decide) (by decide) (by decide)
  have MY : Hid (∀ (W : World) (p : Nat), W.heap[p]? = some (.cells (maC 5 5) 57 (0, 0)) → Calls Try.prog 22 #[pt p, .int .u8 2] W fun e w' => e = .returned (.bool true) ∧ w' = W) := fun W p h => may_at h 2
  go_enter Try.func8, Try.ntmps8
  go_wp2_with fail
  refine (NW _).mono ?_
  rintro e w1 ⟨rfl, rfl⟩
  have h1 := heap_new w (.cells (maC 5 0) 57)
  have B1 : Below w.heap.size w (w.alloc (.cells (maC 5 0) 57)) := (by repeat (first | exact Below.refl _ _ | apply Below.drew | apply Below.al))
  generalize hx : (w.alloc (.cells (maC 5 0) 57) : World) = w1 at h1 B1 ⊢
  clear hx NW
  go_wp2_with fail
  refine (SA.out _ _ h1).mono ?_
  rintro e w2 ⟨rfl, rfl⟩
  go_wp2_with fail
  refine (BO.out _ _ h1).mono ?_
  rintro e w3 ⟨rfl, h3, k3⟩
  have B3 : Below w.heap.size w w3 := Kp.below B1 k3 B1.size (by intro i hi; simp at hi; omega)
  clear k3 h1 B1 SA BO
  go_wp2_with fail
  have gF := at11 w3 (.cells (frC 1797 1 0 0 0 0 0 0 0 0 false) 36) w3.heap.size rfl
  have h4 := ext11 (o := .cells (frC 1797 1 0 0 0 0 0 0 0 0 false) 36) h3
  have B4 := Below.al B3 (.cells (frC 1797 1 0 0 0 0 0 0 0 0 false) 36)
  refine (CM _).mono ?_
  rintro e w5 ⟨rfl, hb⟩
  have gF := blk11 hb gF
  have h5 := blk11 hb h4
  have B5 : Below w.heap.size w w5 := Below.andThen B4 hb
  have l3 : Hid (w.heap.size ≤ w3.heap.size) := B3.size
  clear hb h4 B4 h3 B3 CM
  obtain ⟨B, hB⟩ : ∃ B, Hid (B = w3.heap.size) := ⟨_, rfl⟩
  rw [← hB.out] at gF l3 ⊢
  clear hB
  go_wp2_with fail
  have gF := ext11 (o := .cells (frC 0 2 1 0 0 0 0 0 0 0 false) 36) gF
  have h6 := ext11 (o := .cells (frC 0 2 1 0 0 0 0 0 0 0 false) 36) h5
  have B6 := Below.al B5 (.cells (frC 0 2 1 0 0 0 0 0 0 0 false) 36)
  have ne : B ≠ w.heap.size := by rintro rfl; exact absurd (h6.symm.trans gF) (by simp)
  refine (HE.out _ _ h6).mono ?_
  rintro e w7 ⟨rfl, h7, k7⟩
  have gF := Kp.at k7 (by simpa using ne) gF
  have B7 : Below w.heap.size w w7 := Kp.below B6 k7 B6.size (by intro i hi; simp at hi; omega)
  clear k7 h6 B6 h5 B5 HE
  obtain ⟨f0, f1, f2, f3, f4, f5, f6, f7, f8, f9, f10⟩ := frC_at gF
  have lf := lt_of_heap gF
  clear gF
  go_wp2_with fail
  refine (MY.out _ _ (ext11 h7)).mono ?_
  rintro e w8 ⟨rfl, rfl⟩
  go_wp2_with fail
  go_ret
  exact ⟨rfl, Below.al B7 _⟩

set_option linter.unusedSimpArgs false in
set_option maxHeartbeats 4000000 in
set_option maxRecDepth 100000 in
theorem tells_any {w : World} {p q : Nat} {a s : Int} (hp : w.heap[p]? = some (.cells (maC a s) 57 (0, 0))) (hq : w.heap[q]? = some (.cells (maC a s) 30 (0, 0))) (h0 : 0 ≤ a ∧ a < 256) (hs : 0 ≤ s ∧ s < 256) : Calls Try.prog 9 #[pt p, pt q] w fun e w' => e = .returned (.bool true) ∧ Below w.heap.size w w' := by
  have M1 : ∀ v : Int, Calls Try.prog 22 #[pt p, .int .u8 v] w fun e w' => e = .returned (.bool (mayB v s)) ∧ w' = w := fun v => may_at hp v
  have M2 : ∀ v : Int, Calls Try.prog 23 #[pt q, .int .u8 v] w fun e w' => e = .returned (.bool (mayB v s)) ∧ w' = w := fun v => rmay_at hq v
  have HP : Hid (w.heap[p]? = some (.cells (maC a s) 57 (0, 0))) := hp
  have HQ : Hid (w.heap[q]? = some (.cells (maC a s) 30 (0, 0))) := hq
  have H0 : Hid (0 ≤ a ∧ a < 256) := h0
  have HS : Hid (0 ≤ s ∧ s < 256) := hs
  clear hp hq h0 hs
  go_enter Try.func9, Try.ntmps9
  go_wp2_with fail
  go_loop [5] (fun i => ∃ k : Nat, k ≤ 600 ∧ i = .int .i64 (k : Int)) (fun i => 600 - (intOf i).toNat)
  case atStart => exact ⟨0, by decide, rfl⟩
  case round =>
    obtain ⟨k, hk, rfl⟩ := hrel
    by_cases hlt : k < 256
    · have hlt' : (k : Int) < 256 := by omega
      have W8 : IntKind.u8.wrap (k : Int) = (k : Int) := by rw [IntKind.wrap_u8]; omega
      have A1 := M1 (k : Int)
      have A2 := M2 (k : Int)
      obtain ⟨b, hb⟩ : ∃ b, b = mayB (k : Int) s := ⟨_, rfl⟩
      rw [← hb] at A1 A2
      clear hb M1 M2
      go_wp2_with fail
      refine A1.mono ?_
      rintro e w1 ⟨rfl, rfl⟩
      go_wp2_with fail
      refine A2.mono ?_
      rintro e w2 ⟨rfl, rfl⟩
      go_wp2_with fail
      refine ⟨⟨k + 1 + k / 9 * 7, by omega, by first | rfl | (congr 1; omega)⟩, ?_⟩
      show 600 - ((k : Int) + 1 + (k : Int) / 9 * 7).toNat < 600 - ((k : Int)).toNat
      omega
    · clear M1 M2
      go_wp2_with fail
      have q0 : w.cell? ⟨q, 0, none⟩ = some (.int .u8 a) := by rw [cell_of_row w _ 0 _ _ _ HQ.out]; rfl
      have q1 : w.cell? ⟨q, 1, none⟩ = some (.int .u8 s) := by rw [cell_of_row w _ 1 _ _ _ HQ.out]; rfl
      have hq : ∀ W : World, (binOp .eql 36 (frV (1792 + a) 1 s 0 0 0 0 0 0 0 false) (frV (1792 + a) 1 s 0 0 0 0 0 0 0 false)).run Try.prog W = .ok (.bool true) W := fun W => by rw [eqlF, sameF_self]
      refine wp_region_held_drew (S := fun x1 => Below w.heap.size w x1) (by kernel_rfl) (Below.drew (Below.refl _ _)) (fun hHeld => ?_)
      refine wpAnyH_take (i := 0) (v := (.pointer (some ⟨p, 0, none⟩))) rfl (by kernel_rfl) (by kernel_rfl) (by kernel_rfl) (fun _ _ _ h => h) (Or.inl ⟨by rfl, ?_⟩) (by assumption) ?_
      · intro w9 hSw
        try dsimp only at hSw
        go_simp
        all_goals try decide
        all_goals try assumption
        all_goals try omega
      try simp only [Act.put, List.getElem_toArray, List.getElem_cons_succ, List.getElem_cons_zero, List.setIfInBounds_toArray, List.set_cons_zero, List.set_cons_succ]
      refine wpAnyH_take (i := 2) (v := (.pointer (some ⟨q, 0, none⟩))) rfl (by kernel_rfl) (by kernel_rfl) (by kernel_rfl) (fun _ _ _ h => h) (Or.inl ⟨by rfl, ?_⟩) (by assumption) ?_
      · intro w9 hSw
        try dsimp only at hSw
        go_simp
        all_goals try decide
        all_goals try assumption
        all_goals try omega
      try simp only [Act.put, List.getElem_toArray, List.getElem_cons_succ, List.getElem_cons_zero, List.setIfInBounds_toArray, List.set_cons_zero, List.set_cons_succ]
      refine wpAnyH_take (i := 3) (v := (.pointer (some ⟨q, 0, none⟩))) rfl (by kernel_rfl) (by kernel_rfl) (by kernel_rfl) (fun _ _ _ h => h) (Or.inl ⟨by rfl, ?_⟩) (by assumption) ?_
      · intro w9 hSw
        try dsimp only at hSw
        go_simp
        all_goals try decide
        all_goals try assumption
        all_goals try omega
      try simp only [Act.put, List.getElem_toArray, List.getElem_cons_succ, List.getElem_cons_zero, List.setIfInBounds_toArray, List.set_cons_zero, List.set_cons_succ]
      refine wpAnyH_take (i := 4) (v := (.pointer (some ⟨q, 1, none⟩))) rfl (by kernel_rfl) (by kernel_rfl) (by kernel_rfl) (fun _ _ _ h => h) (Or.inl ⟨by rfl, ?_⟩) (by assumption) ?_
      · intro w9 hSw
        try dsimp only at hSw
        go_simp
        all_goals try decide
        all_goals try assumption
        all_goals try omega
      try simp only [Act.put, List.getElem_toArray, List.getElem_cons_succ, List.getElem_cons_zero, List.setIfInBounds_toArray, List.set_cons_zero, List.set_cons_succ]
      refine wpAnyH_take (i := 5) (v := (.int .u8 s)) rfl (by kernel_rfl) (by kernel_rfl) (by kernel_rfl) (fun _ _ _ h => h) (Or.inl ⟨by rfl, ?_⟩) (by assumption) ?_
      · intro w9 hSw
        try dsimp only at hSw
        have hc9 := cl11 hSw q1
        go_simp
        all_goals try decide
        all_goals try assumption
        all_goals try omega
      try simp only [Act.put, List.getElem_toArray, List.getElem_cons_succ, List.getElem_cons_zero, List.setIfInBounds_toArray, List.set_cons_zero, List.set_cons_succ]
      refine wpAnyH_ready (rs := [1]) (by kernel_rfl) (by simp) ?_
      refine AllReadyH.cons rfl (fun K' hK => ?_) AllReadyH.nil
      rw [if_pos (by rfl)]
      simp only [List.getElem_toArray, List.getElem_cons_succ, List.getElem_cons_zero]
      have S0 := hHeld
      go_wp2_with fail
      refine (state_at (blk11 S0 HP.out)).mono ?_
      rintro e wq ⟨rfl, rfl⟩
      try go_wp2_with fail
      refine hK.out _ _ (S0) (fun hHeld => ?_)
      clear hK K'
      try simp only [Act.put, List.getElem_toArray, List.getElem_cons_succ, List.getElem_cons_zero, List.setIfInBounds_toArray, List.set_cons_zero, List.set_cons_succ]
      clear S0
      refine wpAnyH_take (i := 6) (v := (.bool true)) rfl (by kernel_rfl) (by kernel_rfl) (by kernel_rfl) (fun _ _ _ h => h) (Or.inl ⟨by rfl, ?_⟩) (by assumption) ?_
      · intro w9 hSw
        try dsimp only at hSw
        go_simp
        all_goals try decide
        all_goals try assumption
        all_goals try omega
      try simp only [Act.put, List.getElem_toArray, List.getElem_cons_succ, List.getElem_cons_zero, List.setIfInBounds_toArray, List.set_cons_zero, List.set_cons_succ]
      refine wpAnyH_take (i := 7) (v := (.bool true)) rfl (by kernel_rfl) (by kernel_rfl) (by kernel_rfl) (fun _ _ _ h => h) (Or.inl ⟨by rfl, ?_⟩) (by assumption) ?_
      · intro w9 hSw
        try dsimp only at hSw
        go_simp
        all_goals try decide
        all_goals try assumption
        all_goals try omega
      try simp only [Act.put, List.getElem_toArray, List.getElem_cons_succ, List.getElem_cons_zero, List.setIfInBounds_toArray, List.set_cons_zero, List.set_cons_succ]
      refine wpAnyH_take (i := 8) (v := (.pointer (some ⟨p, 0, none⟩))) rfl (by kernel_rfl) (by kernel_rfl) (by kernel_rfl) (fun _ _ _ h => h) (Or.inl ⟨by rfl, ?_⟩) (by assumption) ?_
      · intro w9 hSw
        try dsimp only at hSw
        go_simp
        all_goals try decide
        all_goals try assumption
        all_goals try omega
      try simp only [Act.put, List.getElem_toArray, List.getElem_cons_succ, List.getElem_cons_zero, List.setIfInBounds_toArray, List.set_cons_zero, List.set_cons_succ]
      refine wpAnyH_take (i := 10) (v := (.pointer (some ⟨q, 0, none⟩))) rfl (by kernel_rfl) (by kernel_rfl) (by kernel_rfl) (fun _ _ _ h => h) (Or.inl ⟨by rfl, ?_⟩) (by assumption) ?_
      · intro w9 hSw
        try dsimp only at hSw
        go_simp
        all_goals try decide
        all_goals try assumption
        all_goals try omega
      try simp only [Act.put, List.getElem_toArray, List.getElem_cons_succ, List.getElem_cons_zero, List.setIfInBounds_toArray, List.set_cons_zero, List.set_cons_succ]
      refine wpAnyH_take (i := 11) (v := (.pointer (some ⟨q, 0, none⟩))) rfl (by kernel_rfl) (by kernel_rfl) (by kernel_rfl) (fun _ _ _ h => h) (Or.inl ⟨by rfl, ?_⟩) (by assumption) ?_
      · intro w9 hSw
        try dsimp only at hSw
        go_simp
        all_goals try decide
        all_goals try assumption
        all_goals try omega
      try simp only [Act.put, List.getElem_toArray, List.getElem_cons_succ, List.getElem_cons_zero, List.setIfInBounds_toArray, List.set_cons_zero, List.set_cons_succ]
      refine wpAnyH_take (i := 12) (v := (.pointer (some ⟨q, 0, none⟩))) rfl (by kernel_rfl) (by kernel_rfl) (by kernel_rfl) (fun _ _ _ h => h) (Or.inl ⟨by rfl, ?_⟩) (by assumption) ?_
      · intro w9 hSw
        try dsimp only at hSw
        go_simp
        all_goals try decide
        all_goals try assumption
        all_goals try omega
      try simp only [Act.put, List.getElem_toArray, List.getElem_cons_succ, List.getElem_cons_zero, List.setIfInBounds_toArray, List.set_cons_zero, List.set_cons_succ]
      refine wpAnyH_take (i := 13) (v := (.int .u8 a)) rfl (by kernel_rfl) (by kernel_rfl) (by kernel_rfl) (fun _ _ _ h => h) (Or.inl ⟨by rfl, ?_⟩) (by assumption) ?_
      · intro w9 hSw
        try dsimp only at hSw
        have hc9 := cl11 hSw q0
        go_simp
        all_goals try decide
        all_goals try assumption
        all_goals try omega
      try simp only [Act.put, List.getElem_toArray, List.getElem_cons_succ, List.getElem_cons_zero, List.setIfInBounds_toArray, List.set_cons_zero, List.set_cons_succ]
      refine wpAnyH_ready (rs := [9]) (by kernel_rfl) (by simp) ?_
      refine AllReadyH.cons rfl (fun K' hK => ?_) AllReadyH.nil
      rw [if_pos (by rfl)]
      simp only [List.getElem_toArray, List.getElem_cons_succ, List.getElem_cons_zero]
      have S0 := hHeld
      go_wp2_with fail
      refine (address_at (blk11 S0 HP.out)).mono ?_
      rintro e wq ⟨rfl, rfl⟩
      try go_wp2_with fail
      refine hK.out _ _ (S0) (fun hHeld => ?_)
      clear hK K'
      try simp only [Act.put, List.getElem_toArray, List.getElem_cons_succ, List.getElem_cons_zero, List.setIfInBounds_toArray, List.set_cons_zero, List.set_cons_succ]
      clear S0
      refine wpAnyH_take (i := 14) (v := (.bool true)) rfl (by kernel_rfl) (by kernel_rfl) (by kernel_rfl) (fun _ _ _ h => h) (Or.inl ⟨by rfl, ?_⟩) (by assumption) ?_
      · intro w9 hSw
        try dsimp only at hSw
        go_simp
        all_goals try decide
        all_goals try assumption
        all_goals try omega
      try simp only [Act.put, List.getElem_toArray, List.getElem_cons_succ, List.getElem_cons_zero, List.setIfInBounds_toArray, List.set_cons_zero, List.set_cons_succ]
      refine wpAnyH_take (i := 15) (v := (.bool true)) rfl (by kernel_rfl) (by kernel_rfl) (by kernel_rfl) (fun _ _ _ h => h) (Or.inl ⟨by rfl, ?_⟩) (by assumption) ?_
      · intro w9 hSw
        try dsimp only at hSw
        go_simp
        all_goals try decide
        all_goals try assumption
        all_goals try omega
      try simp only [Act.put, List.getElem_toArray, List.getElem_cons_succ, List.getElem_cons_zero, List.setIfInBounds_toArray, List.set_cons_zero, List.set_cons_succ]
      refine wpAnyH_take (i := 16) (v := (.bool true)) rfl (by kernel_rfl) (by kernel_rfl) (by kernel_rfl) (fun _ _ _ h => h) (Or.inl ⟨by rfl, ?_⟩) (by assumption) ?_
      · intro w9 hSw
        try dsimp only at hSw
        go_simp
        all_goals try decide
        all_goals try assumption
        all_goals try omega
      try simp only [Act.put, List.getElem_toArray, List.getElem_cons_succ, List.getElem_cons_zero, List.setIfInBounds_toArray, List.set_cons_zero, List.set_cons_succ]
      refine wpAnyH_take (i := 17) (v := (.pointer (some ⟨p, 0, none⟩))) rfl (by kernel_rfl) (by kernel_rfl) (by kernel_rfl) (fun _ _ _ h => h) (Or.inl ⟨by rfl, ?_⟩) (by assumption) ?_
      · intro w9 hSw
        try dsimp only at hSw
        go_simp
        all_goals try decide
        all_goals try assumption
        all_goals try omega
      try simp only [Act.put, List.getElem_toArray, List.getElem_cons_succ, List.getElem_cons_zero, List.setIfInBounds_toArray, List.set_cons_zero, List.set_cons_succ]
      refine wpAnyH_take (i := 19) (v := (.pointer (some ⟨q, 0, none⟩))) rfl (by kernel_rfl) (by kernel_rfl) (by kernel_rfl) (fun _ _ _ h => h) (Or.inl ⟨by rfl, ?_⟩) (by assumption) ?_
      · intro w9 hSw
        try dsimp only at hSw
        go_simp
        all_goals try decide
        all_goals try assumption
        all_goals try omega
      try simp only [Act.put, List.getElem_toArray, List.getElem_cons_succ, List.getElem_cons_zero, List.setIfInBounds_toArray, List.set_cons_zero, List.set_cons_succ]
      refine wpAnyH_ready (rs := [18]) (by kernel_rfl) (by simp) ?_
      refine AllReadyH.cons rfl (fun K' hK => ?_) AllReadyH.nil
      rw [if_pos (by rfl)]
      simp only [List.getElem_toArray, List.getElem_cons_succ, List.getElem_cons_zero]
      have S0 := hHeld
      go_wp2_with fail
      refine (beat_at (blk11 S0 HP.out) H0.out HS.out).mono ?_
      rintro e wb ⟨rfl, hbb⟩
      try go_wp2_with fail
      refine hK.out _ _ (Below.andThen S0 hbb) (fun hHeld => ?_)
      clear hK K'
      try simp only [Act.put, List.getElem_toArray, List.getElem_cons_succ, List.getElem_cons_zero, List.setIfInBounds_toArray, List.set_cons_zero, List.set_cons_succ]
      clear S0 hbb
      refine wpAnyH_ready (rs := [20]) (by kernel_rfl) (by simp) ?_
      refine AllReadyH.cons rfl (fun K' hK => ?_) AllReadyH.nil
      rw [if_pos (by rfl)]
      simp only [List.getElem_toArray, List.getElem_cons_succ, List.getElem_cons_zero]
      have S0 := hHeld
      go_wp2_with fail
      refine (rbeat_at (blk11 S0 HQ.out) H0.out HS.out).mono ?_
      rintro e wb ⟨rfl, hbb⟩
      try go_wp2_with fail
      refine hK.out _ _ (Below.andThen S0 hbb) (fun hHeld => ?_)
      clear hK K'
      try simp only [Act.put, List.getElem_toArray, List.getElem_cons_succ, List.getElem_cons_zero, List.setIfInBounds_toArray, List.set_cons_zero, List.set_cons_succ]
      clear S0 hbb
      refine wpAnyH_take (i := 21) (v := (.bool true)) rfl (by kernel_rfl) (by kernel_rfl) (by kernel_rfl) (fun _ _ _ h => h) (Or.inl ⟨by rfl, ?_⟩) (by assumption) ?_
      · intro w9 hSw
        try dsimp only at hSw
        go_simp
        all_goals try decide
        all_goals try assumption
        all_goals try omega
      try simp only [Act.put, List.getElem_toArray, List.getElem_cons_succ, List.getElem_cons_zero, List.setIfInBounds_toArray, List.set_cons_zero, List.set_cons_succ]
      refine wpAnyH_take (i := 22) (v := (.bool true)) rfl (by kernel_rfl) (by kernel_rfl) (by kernel_rfl) (fun _ _ _ h => h) (Or.inl ⟨by rfl, ?_⟩) (by assumption) ?_
      · intro w9 hSw
        try dsimp only at hSw
        go_simp
        all_goals try decide
        all_goals try assumption
        all_goals try omega
      try simp only [Act.put, List.getElem_toArray, List.getElem_cons_succ, List.getElem_cons_zero, List.setIfInBounds_toArray, List.set_cons_zero, List.set_cons_succ]
      refine wpAnyH_take (i := 23) (v := (.bool true)) rfl (by kernel_rfl) (by kernel_rfl) (by kernel_rfl) (fun _ _ _ h => h) (Or.inl ⟨by rfl, ?_⟩) (by assumption) ?_
      · intro w9 hSw
        try dsimp only at hSw
        go_simp
        all_goals try decide
        all_goals try assumption
        all_goals try omega
      try simp only [Act.put, List.getElem_toArray, List.getElem_cons_succ, List.getElem_cons_zero, List.setIfInBounds_toArray, List.set_cons_zero, List.set_cons_succ]
      refine wpAnyH_done (by kernel_rfl) ?_ _
      have B1 := hHeld
      go_wp2_with fail
      go_ret
      exact ⟨rfl, B1⟩
#print axioms tells_any
end Go.Proofs.Ytjfjfohabpjemaa
