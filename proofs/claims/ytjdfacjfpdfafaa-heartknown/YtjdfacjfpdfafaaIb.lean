/-
  The walk of the law's works.
-/
import Derived.Test.YtjdfacjfpdfafaaHm
namespace Go.Proofs.Ytjdfacjfpdfafaa
open Go.RowKit

/-- A watch of node 5 alone. -/
def five (x : Nd) : List Nd := noneS.set 5 x
theorem five_at (x : Nd) : (five x)[5]? = some x := List.getElem?_set_self (by simp [noneS])
theorem five_other (x : Nd) {k : Nat} (hk : k < 128) (h : k ≠ 5) : (five x)[k]? = some (fresh 0) := by
  unfold five
  rw [List.getElem?_set_ne (Ne.symm h), noneS_get hk]
theorem five_set (x y : Nd) : (five x).set 5 y = five y := by unfold five; rw [List.set_set]
theorem goneB_none (now : Int) : goneB (fresh 0) now = false := by simp [goneB, fresh]
theorem five_tick (x : Nd) (now : Int) : (five x).map (·.tick now) = five (x.tick now) := by
  unfold five noneS
  rw [List.map_set, List.map_replicate]
  have : (fresh 0).tick now = fresh 0 := by unfold Nd.tick; rw [if_neg (by simp [goneB_none])]
  rw [this]
theorem evK_five (x : Nd) (now : Int) : ∀ k, k ≤ 128 → evK now (five x) k = if 5 < k ∧ goneB x now = true then [⟨5, 4, x.s⟩] else []
  | 0, _ => by simp [evK]
  | k + 1, hk => by
    have ih := evK_five x now k (by omega)
    by_cases h5 : k = 5
    · subst h5
      rw [if_neg (by omega)] at ih
      cases hg : goneB x now with
      | true => rw [evK_yes (five_at x) hg, ih]; simp
      | false => rw [evK_no (five_at x) hg, ih]; simp
    · rw [evK_no (five_other x (by omega) h5) (goneB_none now), ih]
      have : (5 < k) ↔ (5 < k + 1) := by omega
      simp [this]
theorem setC_five : setC noneS 5 20 = 0 := by
  rw [setC_at (by decide) (by decide) (by decide) (x := fresh 0) (noneS_get (by decide))]
  rw [if_neg]
  rintro ⟨_, h⟩
  have : cntS noneS 128 = 0 := by
    unfold cntS noneS
    rw [List.take_of_length_le (by simp), List.countP_replicate]
    simp [fresh]
  omega
theorem Kt.up {N x : Nat} {w a b : World} (h : Below N w a) (k : Kt x a b) (hN : N ≤ x) (ha : N ≤ a.heap.size) : Below N w b :=
  ⟨k.os.trans h.os, k.tape.trans h.tape, k.output.trans h.output, Nat.le_trans h.size k.size, fun i hi => (k.low i (by omega) (by omega)).trans (h.block i hi)⟩
theorem heard_five : heard (five (fresh 20)) true 1797 7 = some (fresh 20) := by
  rw [heard_at (x := fresh 20) (by decide) (five_at _), if_pos (by decide)]
theorem hearE_five : hearE (five (fresh 20)) true 1797 5 7 = some ⟨5, 1, 5⟩ := by
  unfold hearE; rw [heard_five]; rfl
theorem hearL_five : hearL (five (fresh 20)) true 1797 5 7 = five ((fresh 20).beat 5 7) := by
  unfold hearL; rw [heard_five]; exact five_set _ _
theorem goneB_26 : goneB ((fresh 20).beat 5 7) 26 = false := by decide
theorem goneB_27 : goneB ((fresh 20).beat 5 7) 27 = true := by decide
theorem tick_26 : ((fresh 20).beat 5 7).tick 26 = (fresh 20).beat 5 7 := by unfold Nd.tick; rw [goneB_26]; rfl
set_option linter.unusedSimpArgs false in
set_option maxHeartbeats 4000000 in
set_option maxRecDepth 100000 in
theorem works_any (w : World) : Calls Try.prog 8 #[] w fun e w' => e = .returned (.bool true) ∧ Below w.heap.size w w' := by
  have NB := fun W => newB_ok 5 (by decide) W
  have SB : Hid (∀ (W : World) (p : Nat), W.heap[p]? = some (.cells (bC 5 0 0) 76 (0, 0)) → Calls Try.prog 11 #[pt p, .int .i64 10, .int .i64 3] W fun e w' => e = .returned (.int .i64 0) ∧ w'.heap[p]? = some (.cells (bC 5 10 3) 76 (0, 0)) ∧ Kp [p] W w') := fun W p h => setB_ok h 10 3 (by decide) (by decide)
  have TB : Hid (∀ (W : World) (p : Nat), W.heap[p]? = some (.cells (bC 5 10 3) 76 (0, 0)) → Calls Try.prog 13 #[pt p, .int .i64 7, .int .u8 5] W fun e w' => e = .returned (.tuple #[frV 1797 1 5 0 0 0 0 0 0 0 false, .bool true]) ∧ w'.heap[p]? = some (.cells (bC 5 10 17) 76 (0, 0)) ∧ Kp [p] W w') := fun W p h => tickB_ok h 7 5 (by decide) (by decide) (by decide) (by decide) (by decide) (by decide) (by decide)
  have NW := fun W => newW_any W
  have BE : Hid (∀ W, Calls Try.prog 27 #[.int .u8 5, .int .u8 5] W fun e w' => e = .returned (frV 1797 1 5 0 0 0 0 0 0 0 false) ∧ Below W.heap.size W w') := fun W => rbeat_any 5 5 (by decide) W
  have NQ : ∀ W : World, (binOp .neq 37 (frV 1797 1 5 0 0 0 0 0 0 0 false) (frV 1797 1 5 0 0 0 0 0 0 0 false)).run Try.prog W = .ok (.bool false) W := fun W => by rw [neqF, sameF_self]; rfl
  go_enter Try.func8, Try.ntmps8
  go_wp2_with fail
  refine (NB _).mono ?_
  rintro e w1 ⟨rfl, rfl⟩
  have h1 := heap_new w (.cells (bC 5 0 0) 76)
  have B1 : Below w.heap.size w (w.alloc (.cells (bC 5 0 0) 76)) := (by repeat (first | exact Below.refl _ _ | apply Below.drew | apply Below.al))
  generalize hx : (w.alloc (.cells (bC 5 0 0) 76) : World) = w1 at h1 B1 ⊢
  clear hx NB
  go_wp2_with fail
  refine (SB.out _ _ h1).mono ?_
  rintro e w2 ⟨rfl, h2, k2⟩
  have B2 : Below w.heap.size w w2 := Kp.below B1 k2 B1.size (by intro i hi; simp at hi; omega)
  clear k2 h1 B1 SB
  go_wp2_with fail
  refine (TB.out _ _ h2).mono ?_
  rintro e w3 ⟨rfl, h3, k3⟩
  have B3 : Below w.heap.size w w3 := Kp.below B2 k3 B2.size (by intro i hi; simp at hi; omega)
  clear k3 h2 B2 TB h3
  obtain ⟨fb, hfb⟩ : ∃ fb, Hid (fb = w3.heap.size) := ⟨_, rfl⟩
  go_wp2_with fail
  have gF := at11 w3 (.cells (frC 1797 1 5 0 0 0 0 0 0 0 false) 37) w3.heap.size rfl
  have B4 := Below.al B3 (.cells (frC 1797 1 5 0 0 0 0 0 0 0 false) 37)
  rw [← hfb.out] at gF ⊢
  clear hfb B3
  refine (NW _).mono ?_
  rintro e w5 ⟨rfl, iw, b5⟩
  have gF := blk11 b5 gF
  have B5 : Below w.heap.size w w5 := Below.andThen B4 b5
  have sz : w.heap.size ≤ (w3.alloc (.cells (frC 1797 1 5 0 0 0 0 0 0 0 false) 37)).heap.size := B4.size
  obtain ⟨p, hp⟩ : ∃ p, p = (w3.alloc (.cells (frC 1797 1 5 0 0 0 0 0 0 0 false) 37)).heap.size := ⟨_, rfl⟩
  rw [← hp] at iw sz ⊢
  have b5s : p ≤ w5.heap.size := by rw [hp]; exact b5.size
  clear hp B4 b5 NW
  have IW : Hid (IsW w5 p p (List.replicate 128 none) noneS) := iw
  have ZZ : Hid (w.heap.size ≤ p ∧ p ≤ w5.heap.size) := ⟨sz, b5s⟩
  clear iw sz b5s
  go_wp2_with fail
  refine wp_region_held_drew (S := fun x1 => x1.heap[fb]? = some (.cells (frC 1797 1 5 0 0 0 0 0 0 0 false) 37 (0, 0))) (by kernel_rfl) (gF) (fun hHeld => ?_)
  refine wpAnyH_take (i := 0) (v := (.bool true)) rfl (by kernel_rfl) (by kernel_rfl) (by kernel_rfl) (fun _ _ _ h => h) (Or.inl ⟨by rfl, ?_⟩) (by assumption) ?_
  · intro w9 hSw
    try dsimp only at hSw
    go_simp
    all_goals try decide
    all_goals try assumption
    all_goals try omega
  try simp only [Act.put, List.getElem_toArray, List.getElem_cons_succ, List.getElem_cons_zero, List.setIfInBounds_toArray, List.set_cons_zero, List.set_cons_succ]
  refine wpAnyH_take (i := 1) (v := (.bool false)) rfl (by kernel_rfl) (by kernel_rfl) (by kernel_rfl) (fun _ _ _ h => h) (Or.inl ⟨by rfl, ?_⟩) (by assumption) ?_
  · intro w9 hSw
    try dsimp only at hSw
    go_simp
    all_goals try decide
    all_goals try assumption
    all_goals try omega
  try simp only [Act.put, List.getElem_toArray, List.getElem_cons_succ, List.getElem_cons_zero, List.setIfInBounds_toArray, List.set_cons_zero, List.set_cons_succ]
  refine wpAnyH_take (i := 2) (v := (.bool false)) rfl (by kernel_rfl) (by kernel_rfl) (by kernel_rfl) (fun _ _ _ h => h) (Or.inl ⟨by rfl, ?_⟩) (by assumption) ?_
  · intro w9 hSw
    try dsimp only at hSw
    go_simp
    all_goals try decide
    all_goals try assumption
    all_goals try omega
  try simp only [Act.put, List.getElem_toArray, List.getElem_cons_succ, List.getElem_cons_zero, List.setIfInBounds_toArray, List.set_cons_zero, List.set_cons_succ]
  refine wpAnyH_take (i := 3) (v := (frV 1797 1 5 0 0 0 0 0 0 0 false)) rfl (by kernel_rfl) (by kernel_rfl) (by kernel_rfl) (fun _ _ _ h => h) (Or.inl ⟨by rfl, ?_⟩) (by assumption) ?_
  · intro w9 hSw
    try dsimp only at hSw
    exact ex_load11 37 (.tmp 3) rfl _ _ rfl (loadF _ _ _ _ _ _ _ _ _ _ _ _ _ hSw)
  try simp only [Act.put, List.getElem_toArray, List.getElem_cons_succ, List.getElem_cons_zero, List.setIfInBounds_toArray, List.set_cons_zero, List.set_cons_succ]
  refine wpAnyH_ready (rs := [4]) (by kernel_rfl) (by simp) ?_
  refine AllReadyH.cons rfl (fun K' hK => ?_) AllReadyH.nil
  rw [if_pos (by rfl)]
  simp only [List.getElem_toArray, List.getElem_cons_succ, List.getElem_cons_zero]
  have S0 := hHeld
  go_wp2_with fail
  refine (BE.out _).mono ?_
  rintro e w6 ⟨rfl, hb⟩
  try go_wp2_with fail
  refine hK.out _ _ (blk11 hb S0) (fun hHeld => ?_)
  clear hK K'
  try simp only [Act.put, List.getElem_toArray, List.getElem_cons_succ, List.getElem_cons_zero, List.setIfInBounds_toArray, List.set_cons_zero, List.set_cons_succ]
  have X6 : Below w5.heap.size w5 w6 := Below.andThen (Below.drew (Below.refl _ _)) hb
  clear hb
  refine wpAnyH_take (i := 5) (v := (.bool false)) rfl (by kernel_rfl) (by kernel_rfl) (by kernel_rfl) (fun _ _ _ h => h) (Or.inl ⟨by rfl, ?_⟩) (by assumption) ?_
  · intro w9 hSw
    try dsimp only at hSw
    have NQ9 := NQ w9
    go_simp
  try simp only [Act.put, List.getElem_toArray, List.getElem_cons_succ, List.getElem_cons_zero, List.setIfInBounds_toArray, List.set_cons_zero, List.set_cons_succ]
  refine wpAnyH_take (i := 6) (v := (.bool false)) rfl (by kernel_rfl) (by kernel_rfl) (by kernel_rfl) (fun _ _ _ h => h) (Or.inl ⟨by rfl, ?_⟩) (by assumption) ?_
  · intro w9 hSw
    try dsimp only at hSw
    go_simp
    all_goals try decide
    all_goals try assumption
    all_goals try omega
  try simp only [Act.put, List.getElem_toArray, List.getElem_cons_succ, List.getElem_cons_zero, List.setIfInBounds_toArray, List.set_cons_zero, List.set_cons_succ]
  refine wpAnyH_take (i := 7) (v := (.bool false)) rfl (by kernel_rfl) (by kernel_rfl) (by kernel_rfl) (fun _ _ _ h => h) (Or.inl ⟨by rfl, ?_⟩) (by assumption) ?_
  · intro w9 hSw
    try dsimp only at hSw
    go_simp
    all_goals try decide
    all_goals try assumption
    all_goals try omega
  try simp only [Act.put, List.getElem_toArray, List.getElem_cons_succ, List.getElem_cons_zero, List.setIfInBounds_toArray, List.set_cons_zero, List.set_cons_succ]
  refine wpAnyH_take (i := 8) (v := (pt p)) rfl (by kernel_rfl) (by kernel_rfl) (by kernel_rfl) (fun _ _ _ h => h) (Or.inl ⟨by rfl, ?_⟩) (by assumption) ?_
  · intro w9 hSw
    try dsimp only at hSw
    go_simp
    all_goals try decide
    all_goals try assumption
    all_goals try omega
  try simp only [Act.put, List.getElem_toArray, List.getElem_cons_succ, List.getElem_cons_zero, List.setIfInBounds_toArray, List.set_cons_zero, List.set_cons_succ]
  refine wpAnyH_take (i := 9) (v := (.bool false)) rfl (by kernel_rfl) (by kernel_rfl) (by kernel_rfl) (fun _ _ _ h => h) (Or.inl ⟨by rfl, ?_⟩) (by assumption) ?_
  · intro w9 hSw
    try dsimp only at hSw
    go_simp
    all_goals try decide
    all_goals try assumption
    all_goals try omega
  try simp only [Act.put, List.getElem_toArray, List.getElem_cons_succ, List.getElem_cons_zero, List.setIfInBounds_toArray, List.set_cons_zero, List.set_cons_succ]
  refine wpAnyH_take (i := 10) (v := (.bool false)) rfl (by kernel_rfl) (by kernel_rfl) (by kernel_rfl) (fun _ _ _ h => h) (Or.inl ⟨by rfl, ?_⟩) (by assumption) ?_
  · intro w9 hSw
    try dsimp only at hSw
    go_simp
    all_goals try decide
    all_goals try assumption
    all_goals try omega
  try simp only [Act.put, List.getElem_toArray, List.getElem_cons_succ, List.getElem_cons_zero, List.setIfInBounds_toArray, List.set_cons_zero, List.set_cons_succ]
  refine wpAnyH_take (i := 11) (v := (.bool false)) rfl (by kernel_rfl) (by kernel_rfl) (by kernel_rfl) (fun _ _ _ h => h) (Or.inl ⟨by rfl, ?_⟩) (by assumption) ?_
  · intro w9 hSw
    try dsimp only at hSw
    go_simp
    all_goals try decide
    all_goals try assumption
    all_goals try omega
  try simp only [Act.put, List.getElem_toArray, List.getElem_cons_succ, List.getElem_cons_zero, List.setIfInBounds_toArray, List.set_cons_zero, List.set_cons_succ]
  refine wpAnyH_take (i := 12) (v := (pt p)) rfl (by kernel_rfl) (by kernel_rfl) (by kernel_rfl) (fun _ _ _ h => h) (Or.inl ⟨by rfl, ?_⟩) (by assumption) ?_
  · intro w9 hSw
    try dsimp only at hSw
    go_simp
    all_goals try decide
    all_goals try assumption
    all_goals try omega
  try simp only [Act.put, List.getElem_toArray, List.getElem_cons_succ, List.getElem_cons_zero, List.setIfInBounds_toArray, List.set_cons_zero, List.set_cons_succ]
  refine wpAnyH_ready (rs := [13]) (by kernel_rfl) (by simp) ?_
  refine AllReadyH.cons rfl (fun K' hK => ?_) AllReadyH.nil
  rw [if_pos (by rfl)]
  simp only [List.getElem_toArray, List.getElem_cons_succ, List.getElem_cons_zero]
  have S0 := hHeld
  go_wp2_with fail
  have SE := set_any (IW.out.next X6) (by have := ZZ.out; have := X6.size; omega) 5 20 (by decide)
  rw [setC_five] at SE
  refine SE.mono ?_
  rintro e w7 ⟨rfl, ⟨P7, h7⟩, k7⟩
  try go_wp2_with fail
  refine hK.out _ _ (k7.typ _ _ _ _ S0 (by decide) (by decide)) (fun hHeld => ?_)
  clear hK K'
  try simp only [Act.put, List.getElem_toArray, List.getElem_cons_succ, List.getElem_cons_zero, List.setIfInBounds_toArray, List.set_cons_zero, List.set_cons_succ]
  refine wpAnyH_take (i := 14) (v := (.bool false)) rfl (by kernel_rfl) (by kernel_rfl) (by kernel_rfl) (fun _ _ _ h => h) (Or.inl ⟨by rfl, ?_⟩) (by assumption) ?_
  · intro w9 hSw
    try dsimp only at hSw
    go_simp
    all_goals try decide
    all_goals try assumption
    all_goals try omega
  try simp only [Act.put, List.getElem_toArray, List.getElem_cons_succ, List.getElem_cons_zero, List.setIfInBounds_toArray, List.set_cons_zero, List.set_cons_succ]
  refine wpAnyH_take (i := 15) (v := (.bool false)) rfl (by kernel_rfl) (by kernel_rfl) (by kernel_rfl) (fun _ _ _ h => h) (Or.inl ⟨by rfl, ?_⟩) (by assumption) ?_
  · intro w9 hSw
    try dsimp only at hSw
    go_simp
    all_goals try decide
    all_goals try assumption
    all_goals try omega
  try simp only [Act.put, List.getElem_toArray, List.getElem_cons_succ, List.getElem_cons_zero, List.setIfInBounds_toArray, List.set_cons_zero, List.set_cons_succ]
  refine wpAnyH_done (by kernel_rfl) ?_ _
  have gF7 := hHeld
  clear hHeld
  rw [setL_ok setC_five, show noneS.set (5 : Int).toNat (fresh 20) = five (fresh 20) from rfl] at h7
  have B6 : Below w.heap.size w w6 := Below.andThen B5 X6
  have B7 : Below w.heap.size w w7 := Kt.up B6 k7 ZZ.out.1 B6.size
  have z7 : p ≤ w7.heap.size := by have := ZZ.out; have := X6.size; have := k7.size; omega
  clear X6 S0 SE k7 B6 B5 IW NQ BE gF
  have ZP : Hid (w.heap.size ≤ p) := ZZ.out.1
  clear ZZ
  have HE := hear_any h7 1797 1 5 0 0 0 0 0 0 0 false 7 (by decide) (by decide)
  rw [show btB 1797 1 5 0 0 0 0 0 0 0 false = true from by decide, hearE_five, hearL_five] at HE
  simp only [eoV] at HE
  clear h7
  obtain ⟨f0, f1, f2, f3, f4, f5, f6, f7, f8, f9, f10⟩ := frC_at gF7
  go_wp2_with fail
  refine HE.mono ?_
  rintro e w8 ⟨rfl, ⟨P8, h8⟩, k8⟩
  have B8 : Below w.heap.size w w8 := Kt.up B7 k8 ZP.out B7.size
  have z8 : p ≤ w8.heap.size := by have := k8.size; omega
  clear HE k8 B7 z7 gF7 f0 f1 f2 f3 f4 f5 f6 f7 f8 f9 f10
  go_wp2_with fail
  have B9 := Below.al B8 (.cells #[.int .u8 5, .int .u8 1, .int .u8 5] 54)
  have T1 := wtick_ok (h8.next (Below.al (Below.refl _ _) (.cells #[.int .u8 5, .int .u8 1, .int .u8 5] 54))) 26 (by decide)
  have z9 : p ≤ (w8.alloc (.cells #[.int .u8 5, .int .u8 1, .int .u8 5] 54)).heap.size := by simp; omega
  generalize (w8.alloc (.cells #[.int .u8 5, .int .u8 1, .int .u8 5] 54) : World) = w9 at B9 T1 z9 ⊢
  clear h8 B8 z8
  refine T1.mono ?_
  rintro e wa ⟨v, rfl, ta⟩
  have ea := ta.ev
  rw [evK_five _ _ _ (Nat.le_refl _), goneB_26, if_neg (by simp)] at ea
  obtain ⟨a1, c1, rfl⟩ := ea.form
  have ha := ta.st
  rw [five_tick, tick_26] at ha
  have Ba : Below w.heap.size w wa := Kt.up B9 ta.k ZP.out B9.size
  clear ea ta T1 B9 z9
  simp only [List.length_nil]
  go_wp2_with fail
  have T2 := wtick_ok ha 27 (by decide)
  refine T2.mono ?_
  rintro e wb ⟨v, rfl, tb⟩
  have eb := tb.ev
  rw [evK_five _ _ _ (Nat.le_refl _), goneB_27, if_pos (by decide)] at eb
  obtain ⟨a2, c2, rfl⟩ := eb.form
  have Bb : Below w.heap.size w wb := Kt.up Ba tb.k ZP.out Ba.size
  clear eb tb T2 Ba ha
  simp only [List.length_cons, List.length_nil]
  go_wp2_with fail
  go_ret
  exact ⟨rfl, Bb⟩
#print axioms works_any
end Go.Proofs.Ytjdfacjfpdfafaa
