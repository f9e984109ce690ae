/-
  The walk of tells: what the two flashes tell is the same.
-/
import Derived.Test.YtdohjolgcmokhaaFz5
namespace Go.Proofs.Ytdohjolgcmokhaa
open Go.RowKit

theorem told_nil (w : World) : Told w w none 0 0 [] := ⟨row_nil w, Nat.le_refl _, by decide, fun h => absurd h (by decide)⟩
theorem read_both (n : Nat) (s : FS) (k : Int) : ∃ (zs : List Int) (len : Nat) (E : Int), len ≤ 1024 ∧ (∀ (w : World) (p B c : Nat), IsS w p B n c s → Calls Try.prog 26 #[.pointer (some ⟨p, 0, none⟩), .int .i64 k] w fun e w' => (∃ a cp, e = .returned (.tuple #[.slice a len cp, .int .i64 E]) ∧ Told w w' a len cp zs) ∧ Below w.heap.size w w') ∧ (∀ (w : World) (q D c : Nat), IsD w q D n c s → Calls Try.prog 37 #[.pointer (some ⟨q, 0, none⟩), .int .i64 k] w fun e w' => (∃ a cp, e = .returned (.tuple #[.slice a len cp, .int .i64 E]) ∧ Told w w' a len cp zs) ∧ Below w.heap.size w w') := by
  by_cases hb : refE s.of n k 0 ≠ 0
  · refine ⟨[], 0, refE s.of n k 0, by omega, fun w p B c h => (read_bad h k hb).mono ?_, fun w q D c h => (readD_bad h k hb).mono ?_⟩
    · rintro e w' ⟨rfl, rfl⟩
      exact ⟨⟨_, _, rfl, told_nil _⟩, Below.refl _ _⟩
    · rintro e w' ⟨rfl, rfl⟩
      exact ⟨⟨_, _, rfl, told_nil _⟩, Below.refl _ _⟩
  · obtain ⟨ho, k', d', rfl, _, hk, _⟩ := refE_zero (Classical.not_not.1 hb)
    exact ⟨sec s.cs k', 1024, 0, by omega, fun w p B c h => read_ok h k' hk ho, fun w q D c h => readD_ok h k' hk ho⟩

set_option linter.unusedSimpArgs false in
set_option maxHeartbeats 4000000 in
set_option maxRecDepth 100000 in
theorem tells_any {w : World} {n p B c q D c' : Nat} {s : FS} (h : IsP w n p B c q D c' s) :
    Calls Try.prog 15 #[.pointer (some ⟨p, 0, none⟩), .pointer (some ⟨q, 0, none⟩)] w fun e w' => e = .returned (.bool true) ∧ Below w.heap.size w w' := by
  have hd := h.next (Below.drew (Below.refl _ w))
  have C1 := off_any hd.f
  have C2 := steps_any hd.f
  have C3 := sectors_any hd.f
  have C4 := sectorsD hd.d
  have d2 := hd.d.c2
  have d3 := hd.d.c3
  have hn2 := h.d.n2
  have SE : Hid (∀ z, Below w.heap.size w z → Calls Try.prog 36 #[.pointer (some ⟨q, 0, none⟩)] z fun e w' => e = .returned (.int .i64 n) ∧ w' = z) := fun z hz => sectorsD (h.next hz).d
  have RB : Hid (∀ k : Int, ∃ (zs : List Int) (len : Nat) (E : Int), len ≤ 1024 ∧ (∀ z, Below w.heap.size w z → Calls Try.prog 26 #[.pointer (some ⟨p, 0, none⟩), .int .i64 k] z fun e w' => (∃ a cp, e = .returned (.tuple #[.slice a len cp, .int .i64 E]) ∧ Told z w' a len cp zs) ∧ Below z.heap.size z w') ∧ (∀ z, Below w.heap.size w z → Calls Try.prog 37 #[.pointer (some ⟨q, 0, none⟩), .int .i64 k] z fun e w' => (∃ a cp, e = .returned (.tuple #[.slice a len cp, .int .i64 E]) ∧ Told z w' a len cp zs) ∧ Below z.heap.size z w')) := fun k => by
    obtain ⟨zs, len, E, hl, r1, r2⟩ := read_both n s k
    exact ⟨zs, len, E, hl, fun z hz => r1 z _ _ _ (h.next hz).f, fun z hz => r2 z _ _ _ (h.next hz).d⟩
  clear h hd
  obtain ⟨C, st, ar, lf, of⟩ := s
  dsimp only at *
  clear C ar lf
  have b0 : (of != of) = false := by simp
  have b1 : (st != st) = false := by simp
  have b2 : ((n : Int) != (n : Int)) = false := by simp
  go_enter Try.func15, Try.ntmps15
  go_wp2_with fail
  refine wp_region_held_drew (S := fun y => y.cell? ⟨q, 2, none⟩ = some (.bool of) ∧ y.cell? ⟨q, 3, none⟩ = some (.int .i64 st)) (by kernel_rfl) (⟨d2, d3⟩) (fun hHeld => ?_)
  refine wpAnyH_take (i := 0) (v := (.pointer (some ⟨p, 0, none⟩))) rfl (by kernel_rfl) (by kernel_rfl) (by kernel_rfl) (fun _ _ _ h => h) (Or.inl ⟨by rfl, ?_⟩) (by assumption) ?_
  · intro w9 hSw
    try dsimp only at hSw
    go_simp
    all_goals try decide
    all_goals try assumption
  try simp only [Act.put, List.getElem_toArray, List.getElem_cons_succ, List.getElem_cons_zero, List.setIfInBounds_toArray, List.set_cons_zero, List.set_cons_succ]
  refine wpAnyH_take (i := 2) (v := (.pointer (some ⟨q, 0, none⟩))) rfl (by kernel_rfl) (by kernel_rfl) (by kernel_rfl) (fun _ _ _ h => h) (Or.inl ⟨by rfl, ?_⟩) (by assumption) ?_
  · intro w9 hSw
    try dsimp only at hSw
    go_simp
    all_goals try decide
    all_goals try assumption
  try simp only [Act.put, List.getElem_toArray, List.getElem_cons_succ, List.getElem_cons_zero, List.setIfInBounds_toArray, List.set_cons_zero, List.set_cons_succ]
  refine wpAnyH_take (i := 3) (v := (.pointer (some ⟨q, 0, none⟩))) rfl (by kernel_rfl) (by kernel_rfl) (by kernel_rfl) (fun _ _ _ h => h) (Or.inl ⟨by rfl, ?_⟩) (by assumption) ?_
  · intro w9 hSw
    try dsimp only at hSw
    go_simp
    all_goals try decide
    all_goals try assumption
  try simp only [Act.put, List.getElem_toArray, List.getElem_cons_succ, List.getElem_cons_zero, List.setIfInBounds_toArray, List.set_cons_zero, List.set_cons_succ]
  refine wpAnyH_take (i := 4) (v := (.pointer (some ⟨q, 2, none⟩))) rfl (by kernel_rfl) (by kernel_rfl) (by kernel_rfl) (fun _ _ _ h => h) (Or.inl ⟨by rfl, ?_⟩) (by assumption) ?_
  · intro w9 hSw
    try dsimp only at hSw
    go_simp
    all_goals try decide
    all_goals try assumption
  try simp only [Act.put, List.getElem_toArray, List.getElem_cons_succ, List.getElem_cons_zero, List.setIfInBounds_toArray, List.set_cons_zero, List.set_cons_succ]
  refine wpAnyH_take (i := 5) (v := (.bool of)) rfl (by kernel_rfl) (by kernel_rfl) (by kernel_rfl) (fun _ _ _ h => h) (Or.inl ⟨by rfl, ?_⟩) (by assumption) ?_
  · intro w9 hSw
    try dsimp only at hSw
    go_simp
    all_goals try decide
    all_goals try assumption
  try simp only [Act.put, List.getElem_toArray, List.getElem_cons_succ, List.getElem_cons_zero, List.setIfInBounds_toArray, List.set_cons_zero, List.set_cons_succ]
  refine wpAnyH_ready (rs := [1]) (by kernel_rfl) (by simp) ?_
  refine AllReadyH.cons rfl (fun K' hK => ?_) AllReadyH.nil
  rw [if_pos (by rfl)]
  simp only [List.getElem_toArray, List.getElem_cons_succ, List.getElem_cons_zero]
  go_wp2_with fail
  refine (C1).mono ?_
  rintro e w8 ⟨rfl, rfl⟩
  try go_wp2_with fail
  refine hK.out _ _ (⟨d2, d3⟩) (fun hHeld => ?_)
  clear hK K'
  try simp only [Act.put, List.getElem_toArray, List.getElem_cons_succ, List.getElem_cons_zero, List.setIfInBounds_toArray, List.set_cons_zero, List.set_cons_succ]
  refine wpAnyH_take (i := 6) (v := (.bool false)) rfl (by kernel_rfl) (by kernel_rfl) (by kernel_rfl) (fun _ _ _ h => h) (Or.inl ⟨by rfl, ?_⟩) (by assumption) ?_
  · intro w9 hSw
    try dsimp only at hSw
    go_simp
    all_goals try decide
    all_goals try assumption
  try simp only [Act.put, List.getElem_toArray, List.getElem_cons_succ, List.getElem_cons_zero, List.setIfInBounds_toArray, List.set_cons_zero, List.set_cons_succ]
  refine wpAnyH_take (i := 7) (v := (.bool false)) rfl (by kernel_rfl) (by kernel_rfl) (by kernel_rfl) (fun _ _ _ h => h) (Or.inl ⟨by rfl, ?_⟩) (by assumption) ?_
  · intro w9 hSw
    try dsimp only at hSw
    go_simp
    all_goals try decide
    all_goals try assumption
  try simp only [Act.put, List.getElem_toArray, List.getElem_cons_succ, List.getElem_cons_zero, List.setIfInBounds_toArray, List.set_cons_zero, List.set_cons_succ]
  refine wpAnyH_take (i := 8) (v := (.pointer (some ⟨p, 0, none⟩))) rfl (by kernel_rfl) (by kernel_rfl) (by kernel_rfl) (fun _ _ _ h => h) (Or.inl ⟨by rfl, ?_⟩) (by assumption) ?_
  · intro w9 hSw
    try dsimp only at hSw
    go_simp
    all_goals try decide
    all_goals try assumption
  try simp only [Act.put, List.getElem_toArray, List.getElem_cons_succ, List.getElem_cons_zero, List.setIfInBounds_toArray, List.set_cons_zero, List.set_cons_succ]
  refine wpAnyH_take (i := 10) (v := (.pointer (some ⟨q, 0, none⟩))) rfl (by kernel_rfl) (by kernel_rfl) (by kernel_rfl) (fun _ _ _ h => h) (Or.inl ⟨by rfl, ?_⟩) (by assumption) ?_
  · intro w9 hSw
    try dsimp only at hSw
    go_simp
    all_goals try decide
    all_goals try assumption
  try simp only [Act.put, List.getElem_toArray, List.getElem_cons_succ, List.getElem_cons_zero, List.setIfInBounds_toArray, List.set_cons_zero, List.set_cons_succ]
  refine wpAnyH_take (i := 11) (v := (.pointer (some ⟨q, 0, none⟩))) rfl (by kernel_rfl) (by kernel_rfl) (by kernel_rfl) (fun _ _ _ h => h) (Or.inl ⟨by rfl, ?_⟩) (by assumption) ?_
  · intro w9 hSw
    try dsimp only at hSw
    go_simp
    all_goals try decide
    all_goals try assumption
  try simp only [Act.put, List.getElem_toArray, List.getElem_cons_succ, List.getElem_cons_zero, List.setIfInBounds_toArray, List.set_cons_zero, List.set_cons_succ]
  refine wpAnyH_take (i := 12) (v := (.pointer (some ⟨q, 3, none⟩))) rfl (by kernel_rfl) (by kernel_rfl) (by kernel_rfl) (fun _ _ _ h => h) (Or.inl ⟨by rfl, ?_⟩) (by assumption) ?_
  · intro w9 hSw
    try dsimp only at hSw
    go_simp
    all_goals try decide
    all_goals try assumption
  try simp only [Act.put, List.getElem_toArray, List.getElem_cons_succ, List.getElem_cons_zero, List.setIfInBounds_toArray, List.set_cons_zero, List.set_cons_succ]
  refine wpAnyH_take (i := 13) (v := (.int .i64 st)) rfl (by kernel_rfl) (by kernel_rfl) (by kernel_rfl) (fun _ _ _ h => h) (Or.inl ⟨by rfl, ?_⟩) (by assumption) ?_
  · intro w9 hSw
    try dsimp only at hSw
    go_simp
    all_goals try decide
    all_goals try assumption
  try simp only [Act.put, List.getElem_toArray, List.getElem_cons_succ, List.getElem_cons_zero, List.setIfInBounds_toArray, List.set_cons_zero, List.set_cons_succ]
  refine wpAnyH_ready (rs := [9]) (by kernel_rfl) (by simp) ?_
  refine AllReadyH.cons rfl (fun K' hK => ?_) AllReadyH.nil
  rw [if_pos (by rfl)]
  simp only [List.getElem_toArray, List.getElem_cons_succ, List.getElem_cons_zero]
  go_wp2_with fail
  refine (C2).mono ?_
  rintro e w8 ⟨rfl, rfl⟩
  try go_wp2_with fail
  refine hK.out _ _ (⟨d2, d3⟩) (fun hHeld => ?_)
  clear hK K'
  try simp only [Act.put, List.getElem_toArray, List.getElem_cons_succ, List.getElem_cons_zero, List.setIfInBounds_toArray, List.set_cons_zero, List.set_cons_succ]
  refine wpAnyH_take (i := 14) (v := (.bool false)) rfl (by kernel_rfl) (by kernel_rfl) (by kernel_rfl) (fun _ _ _ h => h) (Or.inl ⟨by rfl, ?_⟩) (by assumption) ?_
  · intro w9 hSw
    try dsimp only at hSw
    go_simp
    all_goals try decide
    all_goals try assumption
  try simp only [Act.put, List.getElem_toArray, List.getElem_cons_succ, List.getElem_cons_zero, List.setIfInBounds_toArray, List.set_cons_zero, List.set_cons_succ]
  refine wpAnyH_take (i := 15) (v := (.bool false)) rfl (by kernel_rfl) (by kernel_rfl) (by kernel_rfl) (fun _ _ _ h => h) (Or.inl ⟨by rfl, ?_⟩) (by assumption) ?_
  · intro w9 hSw
    try dsimp only at hSw
    go_simp
    all_goals try decide
    all_goals try assumption
  try simp only [Act.put, List.getElem_toArray, List.getElem_cons_succ, List.getElem_cons_zero, List.setIfInBounds_toArray, List.set_cons_zero, List.set_cons_succ]
  refine wpAnyH_take (i := 16) (v := (.bool false)) rfl (by kernel_rfl) (by kernel_rfl) (by kernel_rfl) (fun _ _ _ h => h) (Or.inl ⟨by rfl, ?_⟩) (by assumption) ?_
  · intro w9 hSw
    try dsimp only at hSw
    go_simp
    all_goals try decide
    all_goals try assumption
  try simp only [Act.put, List.getElem_toArray, List.getElem_cons_succ, List.getElem_cons_zero, List.setIfInBounds_toArray, List.set_cons_zero, List.set_cons_succ]
  refine wpAnyH_take (i := 17) (v := (.pointer (some ⟨p, 0, none⟩))) rfl (by kernel_rfl) (by kernel_rfl) (by kernel_rfl) (fun _ _ _ h => h) (Or.inl ⟨by rfl, ?_⟩) (by assumption) ?_
  · intro w9 hSw
    try dsimp only at hSw
    go_simp
    all_goals try decide
    all_goals try assumption
  try simp only [Act.put, List.getElem_toArray, List.getElem_cons_succ, List.getElem_cons_zero, List.setIfInBounds_toArray, List.set_cons_zero, List.set_cons_succ]
  refine wpAnyH_take (i := 19) (v := (.pointer (some ⟨q, 0, none⟩))) rfl (by kernel_rfl) (by kernel_rfl) (by kernel_rfl) (fun _ _ _ h => h) (Or.inl ⟨by rfl, ?_⟩) (by assumption) ?_
  · intro w9 hSw
    try dsimp only at hSw
    go_simp
    all_goals try decide
    all_goals try assumption
  try simp only [Act.put, List.getElem_toArray, List.getElem_cons_succ, List.getElem_cons_zero, List.setIfInBounds_toArray, List.set_cons_zero, List.set_cons_succ]
  refine wpAnyH_ready (rs := [18]) (by kernel_rfl) (by simp) ?_
  refine AllReadyH.cons rfl (fun K' hK => ?_) AllReadyH.nil
  rw [if_pos (by rfl)]
  simp only [List.getElem_toArray, List.getElem_cons_succ, List.getElem_cons_zero]
  go_wp2_with fail
  refine (C3).mono ?_
  rintro e w8 ⟨rfl, rfl⟩
  try go_wp2_with fail
  refine hK.out _ _ (⟨d2, d3⟩) (fun hHeld => ?_)
  clear hK K'
  try simp only [Act.put, List.getElem_toArray, List.getElem_cons_succ, List.getElem_cons_zero, List.setIfInBounds_toArray, List.set_cons_zero, List.set_cons_succ]
  refine wpAnyH_ready (rs := [20]) (by kernel_rfl) (by simp) ?_
  refine AllReadyH.cons rfl (fun K' hK => ?_) AllReadyH.nil
  rw [if_pos (by rfl)]
  simp only [List.getElem_toArray, List.getElem_cons_succ, List.getElem_cons_zero]
  go_wp2_with fail
  refine (C4).mono ?_
  rintro e w8 ⟨rfl, rfl⟩
  try go_wp2_with fail
  refine hK.out _ _ (⟨d2, d3⟩) (fun hHeld => ?_)
  clear hK K'
  try simp only [Act.put, List.getElem_toArray, List.getElem_cons_succ, List.getElem_cons_zero, List.setIfInBounds_toArray, List.set_cons_zero, List.set_cons_succ]
  refine wpAnyH_take (i := 21) (v := (.bool false)) rfl (by kernel_rfl) (by kernel_rfl) (by kernel_rfl) (fun _ _ _ h => h) (Or.inl ⟨by rfl, ?_⟩) (by assumption) ?_
  · intro w9 hSw
    try dsimp only at hSw
    go_simp
    all_goals try decide
    all_goals try assumption
  try simp only [Act.put, List.getElem_toArray, List.getElem_cons_succ, List.getElem_cons_zero, List.setIfInBounds_toArray, List.set_cons_zero, List.set_cons_succ]
  refine wpAnyH_take (i := 22) (v := (.bool false)) rfl (by kernel_rfl) (by kernel_rfl) (by kernel_rfl) (fun _ _ _ h => h) (Or.inl ⟨by rfl, ?_⟩) (by assumption) ?_
  · intro w9 hSw
    try dsimp only at hSw
    go_simp
    all_goals try decide
    all_goals try assumption
  try simp only [Act.put, List.getElem_toArray, List.getElem_cons_succ, List.getElem_cons_zero, List.setIfInBounds_toArray, List.set_cons_zero, List.set_cons_succ]
  refine wpAnyH_done (by kernel_rfl) ?_ _
  clear C1 C2 C3 C4 b0 b1 b2 d2 d3
  go_wp2_with fail
  go_loopw [5] (fun u wr => ∃ i : Nat, i ≤ n + 2 ∧ u = .int .i64 ((i : Int) - 1) ∧ Below w.heap.size w wr) (fun u _ => n + 2 - (intOf u + 1).toNat)
  case atStart => exact ⟨0, by omega, by first | rfl | (trace_state; sorry), Below.drew (Below.refl _ _)⟩
  case round =>
    obtain ⟨i, hi, rfl, hb⟩ := hrel
    have CS := SE.out wr hb
    by_cases hle : (i : Int) - 1 ≤ (n : Int)
    rotate_left
    · clear SE RB
      go_wp2_with fail
      refine CS.mono ?_
      rintro e wr ⟨rfl, rfl⟩
      clear CS
      go_wp2_with fail
      go_ret
      exact ⟨rfl, hb⟩
    obtain ⟨zs, len, E, hlen, R1, R2⟩ := RB.out ((i : Int) - 1)
    have R2H : Hid _ := R2
    have hin : i + 1 ≤ n + 2 := by omega
    have CR := R1 wr hb
    obtain ⟨I, hI⟩ : ∃ I : Int, Hid (I = (i : Int) - 1) := ⟨_, rfl⟩
    have wI : IntKind.i64.wrap (I + 1) = ((i + 1 : Nat) : Int) - 1 := by rw [hI.out, IntKind.wrap_i64]; omega
    have R2I : Hid (∀ z, Below w.heap.size w z → Calls Try.prog 37 #[.pointer (some ⟨q, 0, none⟩), .int .i64 I] z fun e w' => (∃ a cp, e = .returned (.tuple #[.slice a len cp, .int .i64 E]) ∧ Told z w' a len cp zs) ∧ Below z.heap.size z w') := by rw [hI.out]; exact R2
    rw [← hI.out] at CR hle ⊢
    have ee : (E != E) = false := by simp
    clear R1 R2 R2H SE RB
    go_wp2_with fail
    refine CS.mono ?_
    rintro e wr ⟨rfl, rfl⟩
    clear CS
    go_wp2_with fail
    refine CR.mono ?_
    rintro e z ⟨⟨a, cp, rfl, Ta⟩, bz⟩
    clear CR
    have B1 : Below w.heap.size w z := Below.andThen hb bz
    have CR2 := R2I.out z B1
    clear R2I
    go_wp2_with fail
    refine CR2.mono ?_
    rintro e y ⟨⟨a2, cp2, rfl, Tb⟩, by0⟩
    clear CR2
    have B2 : Below w.heap.size w y := Below.andThen B1 by0
    have cv1 := (Ta.row.next by0).str cp
    have cv2 := Tb.row.str cp2
    have OWN : Hid (0 < len → ∃ g, a = some ⟨g, 0, none⟩ ∧ w.heap.size ≤ g ∧ ∀ i, i < len → (∃ v, y.cell? ⟨g, i, none⟩ = some (.int .u8 v)) ∧ y.frozen? ⟨g, i, none⟩ = false) := fun hp => by
      obtain ⟨g, rfl, hg, hf⟩ := Ta.own hp
      obtain ⟨b', off', e', hc⟩ := Ta.row.at_ hp
      have hgl := Ta.row.old hp g 0 rfl
      cases e'
      have hs := hb.size
      refine ⟨g, rfl, by omega, fun i hi => ⟨⟨zs.getD i 0, ?_⟩, ?_⟩⟩
      · have := hc i hi
        rw [Nat.zero_add] at this
        rw [by0.cell (p := ⟨g, i, none⟩) hgl]; exact this
      · rw [World.frozen?_of_block (w := z) (w' := y) (by0.block g hgl)]; exact hf i hi
    generalize strOfNums zs = S at *
    clear Ta Tb bz by0
    go_wp2_with fail
    clear cv1 cv2 ee
    rcases Nat.eq_zero_or_pos len with h0 | hp
    · subst h0
      go_loopw [10] (fun u vr => u = .int .i64 0 ∧ vr = y) (fun _ _ => 0)
      case atStart => exact ⟨rfl, rfl⟩
      case round =>
        obtain ⟨rfl, rfl⟩ := hrel
        go_wp2_with fail
        exact ⟨⟨i + 1, hin, by rw [show ((i + 1 : Nat) : Int) - 1 = (i : Int) from by omega], B2⟩, by have := hI.out; simp [intOf]; omega⟩
    · obtain ⟨g, rfl, hg, hc⟩ := OWN.out hp
      go_loopw [10] (fun u vr => ∃ j : Nat, j ≤ len ∧ u = .int .i64 j ∧ Below w.heap.size w vr ∧ ∀ i, i < len → (∃ v, vr.cell? ⟨g, i, none⟩ = some (.int .u8 v)) ∧ vr.frozen? ⟨g, i, none⟩ = false) (fun u _ => len - (intOf u).toNat)
      case atStart => exact ⟨0, by omega, rfl, B2, hc⟩
      case round =>
        clear hc B2 OWN
        obtain ⟨j, hj, rfl, B3, hc⟩ := hrel
        by_cases hlt : j < len
        · have gj : (j : Int) < (len : Int) := by omega
          obtain ⟨⟨v, cv⟩, cf⟩ := hc j hlt
          have NX : Hid (∀ i, i < len → (∃ v, (wr.setCell ⟨g, j, none⟩ (.int .u8 7)).cell? ⟨g, i, none⟩ = some (.int .u8 v)) ∧ (wr.setCell ⟨g, j, none⟩ (.int .u8 7)).frozen? ⟨g, i, none⟩ = false) := fun i hi => by
            by_cases e : j = i
            · subst e
              exact ⟨⟨7, World.cell?_setCell_same _ _ _ cv⟩, by rw [World.frozen?_setCell]; exact cf⟩
            · obtain ⟨⟨u, cu⟩, cf2⟩ := hc i hi
              exact ⟨⟨u, by rw [World.cell?_setCell_other _ _ _ _ (by simp [e])]; exact cu⟩, by rw [World.frozen?_setCell]; exact cf2⟩
          have B4 : Hid (Below w.heap.size w (wr.setCell ⟨g, j, none⟩ (.int .u8 7))) := B3.setCell hg _
          clear hc B3
          go_wp2_with fail
          exact ⟨⟨j + 1, by omega, by go_num, B4.out, NX.out⟩, by simp [intOf]; omega⟩
        · have gj : ¬ (j : Int) < (len : Int) := by omega
          clear hc
          go_wp2_with fail
          exact ⟨⟨i + 1, hin, by rw [show ((i + 1 : Nat) : Int) - 1 = (i : Int) from by omega], B3⟩, by have := hI.out; simp [intOf]; omega⟩
#print axioms tells_any
end Go.Proofs.Ytdohjolgcmokhaa
