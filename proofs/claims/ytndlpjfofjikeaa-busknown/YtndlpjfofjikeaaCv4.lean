/-
  same: do the two have the same waiting?
-/
import Derived.Test.YtndlpjfofjikeaaCu4
import Derived.Deep.QuietTactic
namespace Go.Proofs.Ytndlpjfofjikeaa
open Go.RowKit

theorem isD_kp {w w' : World} {p g : Nat} {v : Value} {l : List Sn} {n : Int} {A : Array Value} (h : IsD w p v l n) (k : Kp [g] w w') (hg : w.heap[g]? = some (.cells A 42 (0, 0))) : IsD w' p v l n := by
  have ne : ∀ (j : Nat) (B : Array Value) (T : TypeId), w.heap[j]? = some (.cells B T (0, 0)) → T ≠ 42 → j ∉ [g] := fun j B T hj hT => by
    simp only [List.mem_singleton]
    rintro rfl
    rw [hg] at hj
    simp at hj
    exact hT hj.2.symm
  refine h.same (k.block p (lt_of_heap h.head) (ne p _ _ h.head (by decide))) (fun j cur _ hj => k.block j (lt_of_heap hj) (ne j _ _ hj (by decide)))

set_option linter.unusedSimpArgs false in
set_option maxHeartbeats 4000000 in
set_option maxRecDepth 100000 in
theorem same_any {w : World} {pa pb : Nat} {v u : Value} {l L : List Sn} {n : Nat} (hB : IsB w 0 pa v l (n : Int)) (hD : IsD w pb u L (n : Int)) (hT : Two l L n) (hl : l.length ≤ 100000) :
    Calls Try.prog 13 #[.pointer (some ⟨pa, 0, none⟩), .pointer (some ⟨pb, 0, none⟩)] w fun e w' => e = .returned (.bool true) ∧ Below w.heap.size w w' := by
  have WT := waits_any hB (by omega)
  obtain ⟨ua, uc, rfl⟩ := isR_form hD.r
  obtain ⟨N, hN⟩ : ∃ N, Hid (N = l.length) := ⟨_, rfl⟩
  have hLN : L.length = N := by rw [hN.out]; exact hT.len
  rw [← hN.out] at WT
  rw [hLN] at hD
  have hN1 : N ≤ 100000 := by rw [hN.out]; exact hl
  have HB : Hid (∀ z, Below w.heap.size w z → IsB z 0 pa v l (n : Int)) := fun z hz => hB.next hz
  have HD : Hid (∀ z, Below w.heap.size w z → IsD z pb (.slice ua N uc) L (n : Int)) := fun z hz => hD.next hz
  have HT : Hid _ := hT
  clear hB hD hT
  go_enter Try.func13, Try.ntmps13
  go_wp2_with fail
  refine WT.mono ?_
  rintro e z ⟨⟨aw, cw, m, rfl, hrow, hperm, hord⟩, bz⟩
  have em : m = L := HT.out.waits hperm hord
  subst em
  have DZ : Below z.heap.size z z.drew := Below.drew (Below.refl _ _)
  have CT : Calls Try.prog 18 #[.pointer (some ⟨pa, 0, none⟩)] z.drew fun e w' => e = .returned (.int .i64 (n : Int)) ∧ Below z.drew.heap.size z.drew w' := (count_any (HB.out z.drew (Below.andThen bz DZ))).mono (fun e w' hq => ⟨hq.1, by rw [hq.2]; exact Below.refl _ _⟩)
  have KS : Hid (∀ x, Below z.drew.heap.size z.drew x → x.cell? ⟨pb, 0, none⟩ = some (.slice ua N uc) ∧ x.cell? ⟨pb, 1, none⟩ = some (.int .i64 (n : Int))) := fun x hx => ⟨(HD.out x (Below.andThen (Below.andThen bz DZ) hx)).c0, (HD.out x (Below.andThen (Below.andThen bz DZ) hx)).c1⟩
  clear WT hperm hord
  go_wp2_with fail
  refine wp_region_held_drew (S := fun x => x.cell? ⟨pb, 0, none⟩ = some (.slice ua N uc) ∧ x.cell? ⟨pb, 1, none⟩ = some (.int .i64 (n : Int))) (by kernel_rfl) (KS.out _ (Below.refl _ _)) (fun hHeld => ?_)
  refine wpAnyH_take (i := 0) (v := (.slice aw N cw)) rfl (by kernel_rfl) (by kernel_rfl) (by kernel_rfl) (fun _ _ _ h => h) (Or.inl ⟨by rfl, ?_⟩) (by assumption) ?_
  · intro w9 hSw
    try dsimp only at hSw
    go_simp
    all_goals try decide
    all_goals try assumption
  try simp only [Act.put, List.getElem_toArray, List.getElem_cons_succ, List.getElem_cons_zero, List.setIfInBounds_toArray, List.set_cons_zero, List.set_cons_succ]
  refine wpAnyH_take (i := 1) (v := (.int .i64 (N : Int))) rfl (by kernel_rfl) (by kernel_rfl) (by kernel_rfl) (fun _ _ _ h => h) (Or.inl ⟨by rfl, ?_⟩) (by assumption) ?_
  · intro w9 hSw
    try dsimp only at hSw
    go_simp
    all_goals try decide
    all_goals try assumption
  try simp only [Act.put, List.getElem_toArray, List.getElem_cons_succ, List.getElem_cons_zero, List.setIfInBounds_toArray, List.set_cons_zero, List.set_cons_succ]
  refine wpAnyH_take (i := 2) (v := (.pointer (some ⟨pb, 0, none⟩))) rfl (by kernel_rfl) (by kernel_rfl) (by kernel_rfl) (fun _ _ _ h => h) (Or.inl ⟨by rfl, ?_⟩) (by assumption) ?_
  · intro w9 hSw
    try dsimp only at hSw
    go_simp
    all_goals try decide
    all_goals try assumption
  try simp only [Act.put, List.getElem_toArray, List.getElem_cons_succ, List.getElem_cons_zero, List.setIfInBounds_toArray, List.set_cons_zero, List.set_cons_succ]
  refine wpAnyH_take (i := 3) (v := (.pointer (some ⟨pb, 0, none⟩))) rfl (by kernel_rfl) (by kernel_rfl) (by kernel_rfl) (fun _ _ _ h => h) (Or.inl ⟨by rfl, ?_⟩) (by assumption) ?_
  · intro w9 hSw
    try dsimp only at hSw
    go_simp
    all_goals try decide
    all_goals try assumption
  try simp only [Act.put, List.getElem_toArray, List.getElem_cons_succ, List.getElem_cons_zero, List.setIfInBounds_toArray, List.set_cons_zero, List.set_cons_succ]
  refine wpAnyH_take (i := 4) (v := (.pointer (some ⟨pb, 0, none⟩))) rfl (by kernel_rfl) (by kernel_rfl) (by kernel_rfl) (fun _ _ _ h => h) (Or.inl ⟨by rfl, ?_⟩) (by assumption) ?_
  · intro w9 hSw
    try dsimp only at hSw
    go_simp
    all_goals try decide
    all_goals try assumption
  try simp only [Act.put, List.getElem_toArray, List.getElem_cons_succ, List.getElem_cons_zero, List.setIfInBounds_toArray, List.set_cons_zero, List.set_cons_succ]
  refine wpAnyH_take (i := 5) (v := (.slice ua N uc)) rfl (by kernel_rfl) (by kernel_rfl) (by kernel_rfl) (fun _ _ _ h => h) (Or.inl ⟨by rfl, ?_⟩) (by assumption) ?_
  · intro w9 hSw
    try dsimp only at hSw
    go_simp
    all_goals try decide
    all_goals try assumption
  try simp only [Act.put, List.getElem_toArray, List.getElem_cons_succ, List.getElem_cons_zero, List.setIfInBounds_toArray, List.set_cons_zero, List.set_cons_succ]
  refine wpAnyH_take (i := 6) (v := (.int .i64 (N : Int))) rfl (by kernel_rfl) (by kernel_rfl) (by kernel_rfl) (fun _ _ _ h => h) (Or.inl ⟨by rfl, ?_⟩) (by assumption) ?_
  · intro w9 hSw
    try dsimp only at hSw
    go_simp
    all_goals try decide
    all_goals try assumption
  try simp only [Act.put, List.getElem_toArray, List.getElem_cons_succ, List.getElem_cons_zero, List.setIfInBounds_toArray, List.set_cons_zero, List.set_cons_succ]
  refine wpAnyH_take (i := 7) (v := (.bool false)) rfl (by kernel_rfl) (by kernel_rfl) (by kernel_rfl) (fun _ _ _ h => h) (Or.inl ⟨by rfl, ?_⟩) (by assumption) ?_
  · intro w9 hSw
    try dsimp only at hSw
    go_simp
    all_goals try decide
    all_goals try assumption
  try simp only [Act.put, List.getElem_toArray, List.getElem_cons_succ, List.getElem_cons_zero, List.setIfInBounds_toArray, List.set_cons_zero, List.set_cons_succ]
  refine wpAnyH_take (i := 8) (v := (.bool false)) rfl (by kernel_rfl) (by kernel_rfl) (by kernel_rfl) (fun _ _ _ h => h) (Or.inl ⟨by rfl, ?_⟩) (by assumption) ?_
  · intro w9 hSw
    try dsimp only at hSw
    go_simp
    all_goals try decide
    all_goals try assumption
  try simp only [Act.put, List.getElem_toArray, List.getElem_cons_succ, List.getElem_cons_zero, List.setIfInBounds_toArray, List.set_cons_zero, List.set_cons_succ]
  refine wpAnyH_take (i := 9) (v := (.pointer (some ⟨pa, 0, none⟩))) rfl (by kernel_rfl) (by kernel_rfl) (by kernel_rfl) (fun _ _ _ h => h) (Or.inl ⟨by rfl, ?_⟩) (by assumption) ?_
  · intro w9 hSw
    try dsimp only at hSw
    go_simp
    all_goals try decide
    all_goals try assumption
  try simp only [Act.put, List.getElem_toArray, List.getElem_cons_succ, List.getElem_cons_zero, List.setIfInBounds_toArray, List.set_cons_zero, List.set_cons_succ]
  refine wpAnyH_take (i := 11) (v := (.pointer (some ⟨pb, 0, none⟩))) rfl (by kernel_rfl) (by kernel_rfl) (by kernel_rfl) (fun _ _ _ h => h) (Or.inl ⟨by rfl, ?_⟩) (by assumption) ?_
  · intro w9 hSw
    try dsimp only at hSw
    go_simp
    all_goals try decide
    all_goals try assumption
  try simp only [Act.put, List.getElem_toArray, List.getElem_cons_succ, List.getElem_cons_zero, List.setIfInBounds_toArray, List.set_cons_zero, List.set_cons_succ]
  refine wpAnyH_take (i := 12) (v := (.pointer (some ⟨pb, 0, none⟩))) rfl (by kernel_rfl) (by kernel_rfl) (by kernel_rfl) (fun _ _ _ h => h) (Or.inl ⟨by rfl, ?_⟩) (by assumption) ?_
  · intro w9 hSw
    try dsimp only at hSw
    go_simp
    all_goals try decide
    all_goals try assumption
  try simp only [Act.put, List.getElem_toArray, List.getElem_cons_succ, List.getElem_cons_zero, List.setIfInBounds_toArray, List.set_cons_zero, List.set_cons_succ]
  refine wpAnyH_take (i := 13) (v := (.pointer (some ⟨pb, 1, none⟩))) rfl (by kernel_rfl) (by kernel_rfl) (by kernel_rfl) (fun _ _ _ h => h) (Or.inl ⟨by rfl, ?_⟩) (by assumption) ?_
  · intro w9 hSw
    try dsimp only at hSw
    go_simp
    all_goals try decide
    all_goals try assumption
  try simp only [Act.put, List.getElem_toArray, List.getElem_cons_succ, List.getElem_cons_zero, List.setIfInBounds_toArray, List.set_cons_zero, List.set_cons_succ]
  refine wpAnyH_take (i := 14) (v := (.int .i64 (n : Int))) rfl (by kernel_rfl) (by kernel_rfl) (by kernel_rfl) (fun _ _ _ h => h) (Or.inl ⟨by rfl, ?_⟩) (by assumption) ?_
  · intro w9 hSw
    try dsimp only at hSw
    go_simp
    all_goals try decide
    all_goals try assumption
  try simp only [Act.put, List.getElem_toArray, List.getElem_cons_succ, List.getElem_cons_zero, List.setIfInBounds_toArray, List.set_cons_zero, List.set_cons_succ]
  refine wpAnyH_ready (rs := [10]) (by kernel_rfl) (by simp) ?_
  refine AllReadyH.cons rfl (fun K' hK => ?_) AllReadyH.nil
  rw [if_pos (by rfl)]
  simp only [List.getElem_toArray, List.getElem_cons_succ, List.getElem_cons_zero]
  go_wp2_with fail
  refine (CT).mono ?_
  rintro e z2 ⟨rfl, bz2⟩
  try go_wp2_with fail
  refine hK.out _ _ (KS.out _ bz2) (fun hHeld => ?_)
  clear hK K'
  try simp only [Act.put, List.getElem_toArray, List.getElem_cons_succ, List.getElem_cons_zero, List.setIfInBounds_toArray, List.set_cons_zero, List.set_cons_succ]
  refine wpAnyH_take (i := 15) (v := (.bool false)) rfl (by kernel_rfl) (by kernel_rfl) (by kernel_rfl) (fun _ _ _ h => h) (Or.inl ⟨by rfl, ?_⟩) (by assumption) ?_
  · intro w9 hSw
    try dsimp only at hSw
    go_simp
    all_goals try decide
    all_goals try assumption
  try simp only [Act.put, List.getElem_toArray, List.getElem_cons_succ, List.getElem_cons_zero, List.setIfInBounds_toArray, List.set_cons_zero, List.set_cons_succ]
  refine wpAnyH_take (i := 16) (v := (.bool false)) rfl (by kernel_rfl) (by kernel_rfl) (by kernel_rfl) (fun _ _ _ h => h) (Or.inl ⟨by rfl, ?_⟩) (by assumption) ?_
  · intro w9 hSw
    try dsimp only at hSw
    go_simp
    all_goals try decide
    all_goals try assumption
  try simp only [Act.put, List.getElem_toArray, List.getElem_cons_succ, List.getElem_cons_zero, List.setIfInBounds_toArray, List.set_cons_zero, List.set_cons_succ]
  refine wpAnyH_done (by kernel_rfl) ?_ _
  have BZ2 : Below z.heap.size z z2 := Below.andThen DZ bz2
  have ROW : Hid (0 < N → ∃ g, aw = some ⟨g, 0, none⟩ ∧ w.heap.size ≤ g ∧ IsL z2 w.heap.size (.slice (some ⟨g, 0, none⟩) N cw) m) := fun h0 => by
    obtain ⟨g, e, hI⟩ := hrow h0
    exact ⟨g, e, (hI.lt g rfl).1, isL_same hI (fun i hi => BZ2.block i (hI.lt i hi).2)⟩
  have HD2 : Hid (IsD z2 pb (.slice ua N uc) m (n : Int)) := HD.out z2 (Below.andThen bz BZ2)
  have BW2 : Hid (Below w.heap.size w z2) := Below.andThen bz BZ2
  clear CT KS hrow HB HD DZ bz bz2 BZ2
  go_wp2_with fail
  go_loopw [6] (fun u6 vr => ∃ (i : Nat) (e : List Sn), u6 = .int .i64 (i : Int) ∧ i ≤ N ∧ e.length = N ∧ e.drop i = m.drop i ∧ (0 < N → ∃ g, aw = some ⟨g, 0, none⟩ ∧ w.heap.size ≤ g ∧ IsL vr w.heap.size (.slice (some ⟨g, 0, none⟩) N cw) e) ∧ IsD vr pb (.slice ua N uc) m (n : Int) ∧ Below w.heap.size w vr) (fun u6 _ => N - (intOf u6).toNat)
  case atStart => exact ⟨0, m, rfl, Nat.zero_le _, hLN, rfl, ROW.out, HD2.out, BW2.out⟩
  case round =>
    clear ROW HD2 BW2
    obtain ⟨i, e, rfl, hi, he, hdr, hrow, hD, hBw⟩ := hrel
    by_cases hiN : i < N
    · have gi : (i : Int) < (N : Int) := by omega
      have wi : IntKind.i64.wrap ((i : Int) + 1) = ((i + 1 : Nat) : Int) := by rw [IntKind.wrap_i64]; omega
      obtain ⟨g, rfl, hg, hI⟩ := hrow (by omega)
      rcases hD.r.at_ with ⟨_, h2⟩ | ⟨g2, o, cap2, cur, h1, _, _, _, hC⟩
      · rw [h2] at hLN; simp at hLN; omega
      obtain ⟨rfl, -, rfl⟩ := Value.slice.inj h1
      clear h1
      have hx := at_some m i (by omega)
      have hxe : e[i]? = some (at_ m i) := by rw [at_some e i (by omega), at_drop hdr i (Nat.le_refl _)]
      have hI2 : IsL wr w.heap.size (.slice (some ⟨g, 0, none⟩) e.length cw) e := by rw [he]; exact hI
      have CA : Hid (∀ j u, (at_ m i).L[j]? = some u → wr.cell? ⟨g, i * 13 + j, none⟩ = some u) := fun j u hu => IsL.cell hI2 i _ hxe j u hu
      have CR : Hid (∀ j u, (at_ m i).L[j]? = some u → wr.cell? ⟨g2, o + i * 13 + j, none⟩ = some u) := fun j u hu => hC i _ hx j u hu
      have k0 := hD.c0
      have HH : Hid (∀ j, IsL (wr.drewN j) w.heap.size (.slice (some ⟨g, 0, none⟩) e.length cw) e ∧ IsD (wr.drewN j) pb (.slice (some ⟨g2, o, none⟩) N uc) m (n : Int) ∧ Below w.heap.size w (wr.drewN j)) := fun j => ⟨isL_same hI2 (fun _ _ => rfl), hD.next ⟨rfl, rfl, rfl, Nat.le_refl _, fun _ _ => rfl⟩, Below.andThen hBw ⟨rfl, rfl, rfl, Nat.le_refl _, fun _ _ => rfl⟩⟩
      have HX : Hid (e.drop (i + 1) = m.drop (i + 1)) := drop_next hdr
      generalize at_ m i = x at *
      have NQ : ∀ w, (binOp .neq 27 (.agg #[.int .u16 x.i, .int .i64 x.n, .int .u8 x.d0, .int .u8 x.d1, .int .u8 x.d2, .int .u8 x.d3, .int .u8 x.d4, .int .u8 x.d5, .int .u8 x.d6, .int .u8 x.d7, .bool x.r]) (.agg #[.int .u16 x.i, .int .i64 x.n, .int .u8 x.d0, .int .u8 x.d1, .int .u8 x.d2, .int .u8 x.d3, .int .u8 x.d4, .int .u8 x.d5, .int .u8 x.d6, .int .u8 x.d7, .bool x.r])).run Try.prog w = .ok (.bool false) w := fun w => by
        have := neqF w x.i x.n x.d0 x.d1 x.d2 x.d3 x.d4 x.d5 x.d6 x.d7 x.r x.i x.n x.d0 x.d1 x.d2 x.d3 x.d4 x.d5 x.d6 x.d7 x.r
        rw [sameF_self] at this
        exact this
      have a0 : ∀ j, (wr.drewN j).cell? ⟨g, i * 13, none⟩ = some (.int .i64 x.nd) := fun j => CA.out 0 _ rfl
      have b0 : ∀ j, (wr.drewN j).cell? ⟨g2, o + i * 13, none⟩ = some (.int .i64 x.nd) := fun j => CR.out 0 _ rfl
      have a1 : ∀ j, (wr.drewN j).cell? ⟨g, i * 13 + 1, none⟩ = some (.int .u16 x.i) := fun j => CA.out 1 _ rfl
      have b1 : ∀ j, (wr.drewN j).cell? ⟨g2, o + i * 13 + 1, none⟩ = some (.int .u16 x.i) := fun j => CR.out 1 _ rfl
      have a2 : ∀ j, (wr.drewN j).cell? ⟨g, i * 13 + 2, none⟩ = some (.int .i64 x.n) := fun j => CA.out 2 _ rfl
      have b2 : ∀ j, (wr.drewN j).cell? ⟨g2, o + i * 13 + 2, none⟩ = some (.int .i64 x.n) := fun j => CR.out 2 _ rfl
      have a3 : ∀ j, (wr.drewN j).cell? ⟨g, i * 13 + 3, none⟩ = some (.int .u8 x.d0) := fun j => CA.out 3 _ rfl
      have b3 : ∀ j, (wr.drewN j).cell? ⟨g2, o + i * 13 + 3, none⟩ = some (.int .u8 x.d0) := fun j => CR.out 3 _ rfl
      have a4 : ∀ j, (wr.drewN j).cell? ⟨g, i * 13 + 4, none⟩ = some (.int .u8 x.d1) := fun j => CA.out 4 _ rfl
      have b4 : ∀ j, (wr.drewN j).cell? ⟨g2, o + i * 13 + 4, none⟩ = some (.int .u8 x.d1) := fun j => CR.out 4 _ rfl
      have a5 : ∀ j, (wr.drewN j).cell? ⟨g, i * 13 + 5, none⟩ = some (.int .u8 x.d2) := fun j => CA.out 5 _ rfl
      have b5 : ∀ j, (wr.drewN j).cell? ⟨g2, o + i * 13 + 5, none⟩ = some (.int .u8 x.d2) := fun j => CR.out 5 _ rfl
      have a6 : ∀ j, (wr.drewN j).cell? ⟨g, i * 13 + 6, none⟩ = some (.int .u8 x.d3) := fun j => CA.out 6 _ rfl
      have b6 : ∀ j, (wr.drewN j).cell? ⟨g2, o + i * 13 + 6, none⟩ = some (.int .u8 x.d3) := fun j => CR.out 6 _ rfl
      have a7 : ∀ j, (wr.drewN j).cell? ⟨g, i * 13 + 7, none⟩ = some (.int .u8 x.d4) := fun j => CA.out 7 _ rfl
      have b7 : ∀ j, (wr.drewN j).cell? ⟨g2, o + i * 13 + 7, none⟩ = some (.int .u8 x.d4) := fun j => CR.out 7 _ rfl
      have a8 : ∀ j, (wr.drewN j).cell? ⟨g, i * 13 + 8, none⟩ = some (.int .u8 x.d5) := fun j => CA.out 8 _ rfl
      have b8 : ∀ j, (wr.drewN j).cell? ⟨g2, o + i * 13 + 8, none⟩ = some (.int .u8 x.d5) := fun j => CR.out 8 _ rfl
      have a9 : ∀ j, (wr.drewN j).cell? ⟨g, i * 13 + 9, none⟩ = some (.int .u8 x.d6) := fun j => CA.out 9 _ rfl
      have b9 : ∀ j, (wr.drewN j).cell? ⟨g2, o + i * 13 + 9, none⟩ = some (.int .u8 x.d6) := fun j => CR.out 9 _ rfl
      have a10 : ∀ j, (wr.drewN j).cell? ⟨g, i * 13 + 10, none⟩ = some (.int .u8 x.d7) := fun j => CA.out 10 _ rfl
      have b10 : ∀ j, (wr.drewN j).cell? ⟨g2, o + i * 13 + 10, none⟩ = some (.int .u8 x.d7) := fun j => CR.out 10 _ rfl
      have a11 : ∀ j, (wr.drewN j).cell? ⟨g, i * 13 + 11, none⟩ = some (.bool x.r) := fun j => CA.out 11 _ rfl
      have b11 : ∀ j, (wr.drewN j).cell? ⟨g2, o + i * 13 + 11, none⟩ = some (.bool x.r) := fun j => CR.out 11 _ rfl
      have a12 : ∀ j, (wr.drewN j).cell? ⟨g, i * 13 + 12, none⟩ = some (.int .i64 x.nm) := fun j => CA.out 12 _ rfl
      have b12 : ∀ j, (wr.drewN j).cell? ⟨g2, o + i * 13 + 12, none⟩ = some (.int .i64 x.nm) := fun j => CR.out 12 _ rfl
      clear hI hI2 hD hC hx hxe hdr hrow hBw CA CR
      go_wp2_with fail
      go_quiet (fail)
      obtain ⟨q1, q2, q3⟩ := HH.out nq
      obtain ⟨z3, S3, hI3, k3⟩ := q1.store i ⟨0, 0, 0, 0, 0, 0, 0, 0, 0, 0, 0, false, 0⟩ (by omega)
      have hgb : ∃ A, (wr.drewN nq).heap[g]? = some (.cells A 42 (0, 0)) := by
        rcases q1.form with ⟨h1, _⟩ | ⟨_, _, cur9, hv9, _, hh9, _⟩
        · cases h1
        · cases hv9; exact ⟨cur9, hh9⟩
      obtain ⟨A9, hA9⟩ := hgb
      have R3 : Hid ((e.set i ⟨0, 0, 0, 0, 0, 0, 0, 0, 0, 0, 0, false, 0⟩).length = N ∧ (e.set i ⟨0, 0, 0, 0, 0, 0, 0, 0, 0, 0, 0, false, 0⟩).drop (i + 1) = m.drop (i + 1) ∧ (0 < N → ∃ g', some (⟨g, 0, none⟩ : Addr) = some ⟨g', 0, none⟩ ∧ w.heap.size ≤ g' ∧ IsL z3 w.heap.size (.slice (some ⟨g', 0, none⟩) N cw) (e.set i ⟨0, 0, 0, 0, 0, 0, 0, 0, 0, 0, 0, false, 0⟩)) ∧ IsD z3 pb (.slice (some ⟨g2, o, none⟩) N uc) m (n : Int) ∧ Below w.heap.size w z3) := by
        refine ⟨by rw [List.length_set]; exact he, by rw [drop_set e i (i + 1) _ (by omega)]; exact HX.out, fun _ => ⟨g, rfl, hg, by rw [he] at hI3; exact hI3⟩, isD_kp q2 k3 hA9, Kp.below q3 k3 q3.size (by intro j hj; simp at hj; omega)⟩
      clear q1 q2 q3 hI3 k3 hA9 HH HX NQ a0 b0 a1 b1 a2 b2 a3 b3 a4 b4 a5 b5 a6 b6 a7 b7 a8 b8 a9 b9 a10 b10 a11 b11 a12 b12
      go_wp2_with (refine wpList_store_by rfl 42 (.tmp 81) (.tmp 80) rfl _ _ rfl rfl S3 ?_)
      first
        | exact ⟨⟨i + 1, _, rfl, by omega, R3.out⟩, by simp [intOf]; omega⟩
        | (trace_state; sorry)
    · have gi : ¬ (i : Int) < (N : Int) := by omega
      have BE : Hid _ := hBw
      clear hrow hD hBw hdr
      go_wp2_with fail
      go_ret
      exact ⟨rfl, BE.out⟩
#print axioms same_any
end Go.Proofs.Ytndlpjfofjikeaa
