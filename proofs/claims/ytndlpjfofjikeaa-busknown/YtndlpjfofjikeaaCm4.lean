/-
  The document's Send of one that may be sent.
-/
import Derived.Test.YtndlpjfofjikeaaCl4
namespace Go.Proofs.Ytndlpjfofjikeaa
open Go.RowKit


set_option linter.unusedSimpArgs false in
set_option maxHeartbeats 4000000 in
set_option maxRecDepth 100000 in
theorem rsend_some {w : World} {p : Nat} {v : Value} {l : List Sn} (y : Sn) (h : IsD w p v l y.nm) (hl : v ≠ .slice none 0 0) (he : sndE y.nd y.ok l.length = 0) (hc0 : 0 ≤ y.nm) (hc : y.nm < 1000000) :
    Calls Try.prog 23 #[.pointer (some ⟨p, 0, none⟩), .int .i64 y.nd, .agg #[.int .u16 y.i, .int .i64 y.n, .int .u8 y.d0, .int .u8 y.d1, .int .u8 y.d2, .int .u8 y.d3, .int .u8 y.d4, .int .u8 y.d5, .int .u8 y.d6, .int .u8 y.d7, .bool y.r]] w fun e w' => e = .returned (.int .i64 0) ∧ (∃ v', IsD w' p v' (insN y l) (y.nm + 1)) ∧ Kp [p] w w' := by
  have c1 : ¬ y.nd < 0 := fun e => by unfold sndE at he; rw [if_pos e] at he; cases he
  have c2 : y.ok = true := by
    cases hr : y.ok with
    | true => rfl
    | false => unfold sndE at he; rw [hr, if_neg c1, if_pos rfl] at he; cases he
  have c3 : l.length < 512 := by
    apply Classical.byContradiction
    intro e
    unfold sndE at he
    rw [c2, if_neg c1, if_neg (by decide), if_pos (by omega)] at he
    cases he
  have RI := fun w => refRight_any y.i y.n y.d0 y.d1 y.d2 y.d3 y.d4 y.d5 y.d6 y.d7 y.r w
  rw [show rightB y.i y.n [y.d0, y.d1, y.d2, y.d3, y.d4, y.d5, y.d6, y.d7] y.r = true from c2] at RI
  obtain ⟨i0, hi, hz0, hz1, hz2⟩ := info_parts infoR
  have hp := lt_of_heap h.head
  rcases h.r.at_ with ⟨h2, _⟩ | ⟨g, o, cap, cur, rfl, hcap, hmax, hgb, hC⟩
  · exact absurd h2 hl
  have hx : Below w.heap.size w (w.alloc (.cells #[.int .u16 y.i, .int .i64 y.n, .int .u8 y.d0, .int .u8 y.d1, .int .u8 y.d2, .int .u8 y.d3, .int .u8 y.d4, .int .u8 y.d5, .int .u8 y.d6, .int .u8 y.d7, .bool y.r] 27)) := Below.al (Below.refl _ _) _
  have WW : IntKind.i64.wrap (y.nm + 1) = y.nm + 1 := by rw [IntKind.wrap_i64]; omega
  obtain ⟨N, hN⟩ : ∃ N, Hid (N = l.length) := ⟨_, rfl⟩
  rw [← hN.out] at h
  have gl : ¬ (512 : Int) ≤ (N : Int) := by rw [hN.out]; omega
  have gl2 : ¬ (N : Int) ≥ 512 := by rw [hN.out]; omega
  have HN : Hid (∀ z, Below w.heap.size w z → IsD z p (.slice (some ⟨g, o, none⟩) N cap) l y.nm) := fun z hz => h.next hz
  have HC : Hid (∀ z, Below w.heap.size w z → CellsR z g o l) := fun z hz => hC.below hz
  clear h hC he c2 hgb
  rw [← hN.out] at c3 hcap
  go_enter Try.func23, Try.ntmps23
  go_wp2_with fail
  refine (RI _).mono ?_
  rintro e z ⟨rfl, bz⟩
  have BZ : Below w.heap.size w z := Below.andThen hx bz
  have k0 := (HN.out z BZ).c0
  have k1 := (HN.out z BZ).c1
  have LF := run_loadVar_row (P := Try.prog) z.drew w.heap.size 27 27 #[.int .u16 y.i, .int .i64 y.n, .int .u8 y.d0, .int .u8 y.d1, .int .u8 y.d2, .int .u8 y.d3, .int .u8 y.d4, .int .u8 y.d5, .int .u8 y.d6, .int .u8 y.d7, .bool y.r] (0, 0) _ ((bz.block w.heap.size (by simp)).trans (heap_alloc_last w _)) Try.underlying27 rfl sizeF
  have hfb : z.heap[w.heap.size]? = some (.cells #[.int .u16 y.i, .int .i64 y.n, .int .u8 y.d0, .int .u8 y.d1, .int .u8 y.d2, .int .u8 y.d3, .int .u8 y.d4, .int .u8 y.d5, .int .u8 y.d6, .int .u8 y.d7, .bool y.r] 27 (0, 0)) := (bz.block w.heap.size (by simp)).trans (heap_alloc_last w _)
  have fc0 : z.cell? ⟨w.heap.size, 0, none⟩ = some (.int .u16 y.i) := by rw [cell_of_row z _ 0 _ _ _ hfb]; rfl
  have fc1 : z.cell? ⟨w.heap.size, 1, none⟩ = some (.int .i64 y.n) := by rw [cell_of_row z _ 1 _ _ _ hfb]; rfl
  have fc2 : z.cell? ⟨w.heap.size, 2, none⟩ = some (.int .u8 y.d0) := by rw [cell_of_row z _ 2 _ _ _ hfb]; rfl
  have fc3 : z.cell? ⟨w.heap.size, 3, none⟩ = some (.int .u8 y.d1) := by rw [cell_of_row z _ 3 _ _ _ hfb]; rfl
  have fc4 : z.cell? ⟨w.heap.size, 4, none⟩ = some (.int .u8 y.d2) := by rw [cell_of_row z _ 4 _ _ _ hfb]; rfl
  have fc5 : z.cell? ⟨w.heap.size, 5, none⟩ = some (.int .u8 y.d3) := by rw [cell_of_row z _ 5 _ _ _ hfb]; rfl
  have fc6 : z.cell? ⟨w.heap.size, 6, none⟩ = some (.int .u8 y.d4) := by rw [cell_of_row z _ 6 _ _ _ hfb]; rfl
  have fc7 : z.cell? ⟨w.heap.size, 7, none⟩ = some (.int .u8 y.d5) := by rw [cell_of_row z _ 7 _ _ _ hfb]; rfl
  have fc8 : z.cell? ⟨w.heap.size, 8, none⟩ = some (.int .u8 y.d6) := by rw [cell_of_row z _ 8 _ _ _ hfb]; rfl
  have fc9 : z.cell? ⟨w.heap.size, 9, none⟩ = some (.int .u8 y.d7) := by rw [cell_of_row z _ 9 _ _ _ hfb]; rfl
  have fc10 : z.cell? ⟨w.heap.size, 10, none⟩ = some (.bool y.r) := by rw [cell_of_row z _ 10 _ _ _ hfb]; rfl
  have k1a : ∀ b, (z.alloc b).cell? ⟨p, 1, none⟩ = some (.int .i64 y.nm) := fun b => ((HN.out z BZ).next (Below.al (Below.refl _ _) b)).c1
  have hfa : ∀ b, (z.alloc b).heap[w.heap.size]? = some (.cells #[.int .u16 y.i, .int .i64 y.n, .int .u8 y.d0, .int .u8 y.d1, .int .u8 y.d2, .int .u8 y.d3, .int .u8 y.d4, .int .u8 y.d5, .int .u8 y.d6, .int .u8 y.d7, .bool y.r] 27 (0, 0)) := fun b => (Below.heap_alloc _ _ _ (lt_of_heap hfb)).trans hfb
  have ga0 : ∀ b, (z.alloc b).cell? ⟨w.heap.size, 0, none⟩ = some (.int .u16 y.i) := fun b => by rw [cell_of_row _ _ 0 _ _ _ (hfa b)]; rfl
  have ga1 : ∀ b, (z.alloc b).cell? ⟨w.heap.size, 1, none⟩ = some (.int .i64 y.n) := fun b => by rw [cell_of_row _ _ 1 _ _ _ (hfa b)]; rfl
  have ga2 : ∀ b, (z.alloc b).cell? ⟨w.heap.size, 2, none⟩ = some (.int .u8 y.d0) := fun b => by rw [cell_of_row _ _ 2 _ _ _ (hfa b)]; rfl
  have ga3 : ∀ b, (z.alloc b).cell? ⟨w.heap.size, 3, none⟩ = some (.int .u8 y.d1) := fun b => by rw [cell_of_row _ _ 3 _ _ _ (hfa b)]; rfl
  have ga4 : ∀ b, (z.alloc b).cell? ⟨w.heap.size, 4, none⟩ = some (.int .u8 y.d2) := fun b => by rw [cell_of_row _ _ 4 _ _ _ (hfa b)]; rfl
  have ga5 : ∀ b, (z.alloc b).cell? ⟨w.heap.size, 5, none⟩ = some (.int .u8 y.d3) := fun b => by rw [cell_of_row _ _ 5 _ _ _ (hfa b)]; rfl
  have ga6 : ∀ b, (z.alloc b).cell? ⟨w.heap.size, 6, none⟩ = some (.int .u8 y.d4) := fun b => by rw [cell_of_row _ _ 6 _ _ _ (hfa b)]; rfl
  have ga7 : ∀ b, (z.alloc b).cell? ⟨w.heap.size, 7, none⟩ = some (.int .u8 y.d5) := fun b => by rw [cell_of_row _ _ 7 _ _ _ (hfa b)]; rfl
  have ga8 : ∀ b, (z.alloc b).cell? ⟨w.heap.size, 8, none⟩ = some (.int .u8 y.d6) := fun b => by rw [cell_of_row _ _ 8 _ _ _ (hfa b)]; rfl
  have ga9 : ∀ b, (z.alloc b).cell? ⟨w.heap.size, 9, none⟩ = some (.int .u8 y.d7) := fun b => by rw [cell_of_row _ _ 9 _ _ _ (hfa b)]; rfl
  have ga10 : ∀ b, (z.alloc b).cell? ⟨w.heap.size, 10, none⟩ = some (.bool y.r) := fun b => by rw [cell_of_row _ _ 10 _ _ _ (hfa b)]; rfl
  clear RI bz hx hfb hfa
  go_wp2_with fail
  go_region
  have BS : Below w.heap.size w ((z.alloc (.cells y.A 63)).drew) := Below.drew (Below.al BZ _)
  have SB : ((z.alloc (.cells y.A 63)).drew).heap[z.heap.size]? = some (.cells y.A 63 (0, 0)) := heap_alloc_last z _
  obtain ⟨z1, hz1'⟩ : ∃ z1, Hid (z1 = (z.alloc (.cells y.A 63)).drew) := ⟨_, rfl⟩
  rw [← hz1'.out] at BS SB ⊢
  obtain ⟨sb, hsb⟩ : ∃ sb, Hid (sb = z.heap.size) := ⟨_, rfl⟩
  rw [← hsb.out] at SB ⊢
  obtain ⟨M, hM⟩ : ∃ M, Hid (M = aheadN y l) := ⟨_, rfl⟩
  have hMN : M ≤ N := by rw [hM.out, hN.out]; exact aheadN_le y l
  have HSB : Hid _ := SB
  have HBS : Hid _ := BS
  clear k0 k1 k1a LF BZ BS SB fc0 ga0 fc1 ga1 fc2 ga2 fc3 ga3 fc4 ga4 fc5 ga5 fc6 ga6 fc7 ga7 fc8 ga8 fc9 ga9 fc10 ga10 hsb hz1'
  go_wp2_with fail
  go_loopw [8] (fun u vr => ∃ k : Nat, u = .int .i64 (k : Int) ∧ k ≤ M ∧ Below z1.heap.size z1 vr) (fun u _ => M - (intOf u).toNat)
  case atStart => exact ⟨0, rfl, Nat.zero_le _, Below.refl _ _⟩
  case round =>
    obtain ⟨k, rfl, hk, bk⟩ := hrel
    have Bw : Below w.heap.size w wr := Below.andThen HBS.out bk
    have DW : Below wr.heap.size wr wr.drew := Below.drew (Below.refl _ _)
    have wk : IntKind.i64.wrap ((k : Int) + 1) = ((k + 1 : Nat) : Int) := by rw [IntKind.wrap_i64]; omega
    have CD : Hid (∀ x, Below wr.drew.heap.size wr.drew x → x.cell? ⟨p, 0, none⟩ = some (.slice (some ⟨g, o, none⟩) N cap)) := fun x hx => ((HN.out wr Bw).next (Below.andThen DW hx)).c0
    by_cases hkN : k < N
    · have gk : (k : Int) < (N : Int) := by omega
      have hx := at_some l k (by rw [← hN.out]; exact hkN)
      have L1 := loadR (HC.out wr.drew (Below.andThen Bw DW)) k _ hx
      have L2 := run_loadVar_row (P := Try.prog) wr.drew sb 63 63 y.A (0, 0) _ ((bk.block sb (lt_of_heap HSB.out)).trans HSB.out) Try.underlying63 rfl sizeR
      have hahead : (k < M → aheadB (at_ l k) y = true) ∧ (k = M → aheadB (at_ l k) y = false) := ⟨fun e => aheadN_lt y l k (by rw [← hM.out]; exact e), fun e => by rw [e, hM.out]; exact aheadN_stop y l (by rw [← hM.out, ← hN.out, ← e]; exact hkN)⟩
      have AH := rahead_any (at_ l k) y wr.drew
      have HBW : Hid (∀ x, Below wr.drew.heap.size wr.drew x → Below z1.heap.size z1 x) := fun x hx => Below.andThen (Below.andThen bk DW) hx
      by_cases hkM : k < M
      · rw [hahead.1 hkM] at AH
        generalize at_ l k = x at *
        clear hahead hx Bw bk DW
        go_wp2_with fail
        refine wp_region_held_drew (S := fun u => u.cell? ⟨p, 0, none⟩ = some (.slice (some ⟨g, o, none⟩) N cap)) (by kernel_rfl) (CD.out _ (Below.refl _ _)) (fun hHeld => ?_)
        refine wpAnyH_take (i := 0) (v := (.int .i64 (k : Int))) rfl (by kernel_rfl) (by kernel_rfl) (by kernel_rfl) (fun _ _ _ h => h) (Or.inl ⟨by rfl, ?_⟩) (by assumption) ?_
        · intro w9 hSw
          try dsimp only at hSw
          go_simp
          all_goals try decide
          all_goals try assumption
        try simp only [Act.put, List.getElem_toArray, List.getElem_cons_succ, List.getElem_cons_zero, List.setIfInBounds_toArray, List.set_cons_zero, List.set_cons_succ]
        refine wpAnyH_take (i := 1) (v := (.pointer (some ⟨p, 0, none⟩))) rfl (by kernel_rfl) (by kernel_rfl) (by kernel_rfl) (fun _ _ _ h => h) (Or.inl ⟨by rfl, ?_⟩) (by assumption) ?_
        · intro w9 hSw
          try dsimp only at hSw
          go_simp
          all_goals try decide
          all_goals try assumption
        try simp only [Act.put, List.getElem_toArray, List.getElem_cons_succ, List.getElem_cons_zero, List.setIfInBounds_toArray, List.set_cons_zero, List.set_cons_succ]
        refine wpAnyH_take (i := 2) (v := (.pointer (some ⟨p, 0, none⟩))) rfl (by kernel_rfl) (by kernel_rfl) (by kernel_rfl) (fun _ _ _ h => h) (Or.inl ⟨by rfl, ?_⟩) (by assumption) ?_
        · intro w9 hSw
          try dsimp only at hSw
          go_simp
          all_goals try decide
          all_goals try assumption
        try simp only [Act.put, List.getElem_toArray, List.getElem_cons_succ, List.getElem_cons_zero, List.setIfInBounds_toArray, List.set_cons_zero, List.set_cons_succ]
        refine wpAnyH_take (i := 3) (v := (.pointer (some ⟨p, 0, none⟩))) rfl (by kernel_rfl) (by kernel_rfl) (by kernel_rfl) (fun _ _ _ h => h) (Or.inl ⟨by rfl, ?_⟩) (by assumption) ?_
        · intro w9 hSw
          try dsimp only at hSw
          go_simp
          all_goals try decide
          all_goals try assumption
        try simp only [Act.put, List.getElem_toArray, List.getElem_cons_succ, List.getElem_cons_zero, List.setIfInBounds_toArray, List.set_cons_zero, List.set_cons_succ]
        refine wpAnyH_take (i := 4) (v := (.slice (some ⟨g, o, none⟩) N cap)) rfl (by kernel_rfl) (by kernel_rfl) (by kernel_rfl) (fun _ _ _ h => h) (Or.inl ⟨by rfl, ?_⟩) (by assumption) ?_
        · intro w9 hSw
          try dsimp only at hSw
          go_simp
          all_goals try decide
          all_goals try assumption
        try simp only [Act.put, List.getElem_toArray, List.getElem_cons_succ, List.getElem_cons_zero, List.setIfInBounds_toArray, List.set_cons_zero, List.set_cons_succ]
        refine wpAnyH_take (i := 5) (v := (.int .i64 (N : Int))) rfl (by kernel_rfl) (by kernel_rfl) (by kernel_rfl) (fun _ _ _ h => h) (Or.inl ⟨by rfl, ?_⟩) (by assumption) ?_
        · intro w9 hSw
          try dsimp only at hSw
          go_simp
          all_goals try decide
          all_goals try assumption
        try simp only [Act.put, List.getElem_toArray, List.getElem_cons_succ, List.getElem_cons_zero, List.setIfInBounds_toArray, List.set_cons_zero, List.set_cons_succ]
        refine wpAnyH_take (i := 6) (v := (.bool true)) rfl (by kernel_rfl) (by kernel_rfl) (by kernel_rfl) (fun _ _ _ h => h) (Or.inl ⟨by rfl, ?_⟩) (by assumption) ?_
        · intro w9 hSw
          try dsimp only at hSw
          go_simp
          all_goals try decide
          all_goals try assumption
        try simp only [Act.put, List.getElem_toArray, List.getElem_cons_succ, List.getElem_cons_zero, List.setIfInBounds_toArray, List.set_cons_zero, List.set_cons_succ]
        refine wpAnyH_take (i := 7) (v := (.bool true)) rfl (by kernel_rfl) (by kernel_rfl) (by kernel_rfl) (fun _ _ _ h => h) (Or.inl ⟨by rfl, ?_⟩) (by assumption) ?_
        · intro w9 hSw
          try dsimp only at hSw
          go_simp
          all_goals try decide
          all_goals try assumption
        try simp only [Act.put, List.getElem_toArray, List.getElem_cons_succ, List.getElem_cons_zero, List.setIfInBounds_toArray, List.set_cons_zero, List.set_cons_succ]
        refine wpAnyH_take (i := 8) (v := (.pointer (some ⟨p, 0, none⟩))) rfl (by kernel_rfl) (by kernel_rfl) (by kernel_rfl) (fun _ _ _ h => h) (Or.inl ⟨by rfl, ?_⟩) (by assumption) ?_
        · intro w9 hSw
          try dsimp only at hSw
          go_simp
          all_goals try decide
          all_goals try assumption
        try simp only [Act.put, List.getElem_toArray, List.getElem_cons_succ, List.getElem_cons_zero, List.setIfInBounds_toArray, List.set_cons_zero, List.set_cons_succ]
        refine wpAnyH_take (i := 9) (v := (.pointer (some ⟨p, 0, none⟩))) rfl (by kernel_rfl) (by kernel_rfl) (by kernel_rfl) (fun _ _ _ h => h) (Or.inl ⟨by rfl, ?_⟩) (by assumption) ?_
        · intro w9 hSw
          try dsimp only at hSw
          go_simp
          all_goals try decide
          all_goals try assumption
        try simp only [Act.put, List.getElem_toArray, List.getElem_cons_succ, List.getElem_cons_zero, List.setIfInBounds_toArray, List.set_cons_zero, List.set_cons_succ]
        refine wpAnyH_take (i := 10) (v := (.pointer (some ⟨p, 0, none⟩))) rfl (by kernel_rfl) (by kernel_rfl) (by kernel_rfl) (fun _ _ _ h => h) (Or.inl ⟨by rfl, ?_⟩) (by assumption) ?_
        · intro w9 hSw
          try dsimp only at hSw
          go_simp
          all_goals try decide
          all_goals try assumption
        try simp only [Act.put, List.getElem_toArray, List.getElem_cons_succ, List.getElem_cons_zero, List.setIfInBounds_toArray, List.set_cons_zero, List.set_cons_succ]
        refine wpAnyH_take (i := 11) (v := (.slice (some ⟨g, o, none⟩) N cap)) rfl (by kernel_rfl) (by kernel_rfl) (by kernel_rfl) (fun _ _ _ h => h) (Or.inl ⟨by rfl, ?_⟩) (by assumption) ?_
        · intro w9 hSw
          try dsimp only at hSw
          go_simp
          all_goals try decide
          all_goals try assumption
        try simp only [Act.put, List.getElem_toArray, List.getElem_cons_succ, List.getElem_cons_zero, List.setIfInBounds_toArray, List.set_cons_zero, List.set_cons_succ]
        refine wpAnyH_take (i := 12) (v := (.int .i64 (k : Int))) rfl (by kernel_rfl) (by kernel_rfl) (by kernel_rfl) (fun _ _ _ h => h) (Or.inl ⟨by rfl, ?_⟩) (by assumption) ?_
        · intro w9 hSw
          try dsimp only at hSw
          go_simp
          all_goals try decide
          all_goals try assumption
        try simp only [Act.put, List.getElem_toArray, List.getElem_cons_succ, List.getElem_cons_zero, List.setIfInBounds_toArray, List.set_cons_zero, List.set_cons_succ]
        refine wpAnyH_take (i := 13) (v := (.pointer (some ⟨g, o + k * 13, none⟩))) rfl (by kernel_rfl) (by kernel_rfl) (by kernel_rfl) (fun _ _ _ h => h) (Or.inl ⟨by rfl, ?_⟩) (by assumption) ?_
        · intro w9 hSw
          try dsimp only at hSw
          go_simp
          all_goals try decide
          all_goals try assumption
        try simp only [Act.put, List.getElem_toArray, List.getElem_cons_succ, List.getElem_cons_zero, List.setIfInBounds_toArray, List.set_cons_zero, List.set_cons_succ]
        refine wpAnyH_ready (rs := [14, 15]) (by kernel_rfl) (by simp) ?_
        refine AllReadyH.cons rfl (fun K' hK => ?_) (AllReadyH.cons rfl (fun K' hK => ?_) AllReadyH.nil)
        · rw [if_pos (by rfl)]
          simp only [List.getElem_toArray, List.getElem_cons_succ, List.getElem_cons_zero]
          refine wp_load_by 63 (.tmp 41) rfl _ _ rfl L1 ?_
          refine hK.out _ _ (CD.out _ (Below.refl _ _)) (fun hHeld => ?_)
          clear hK K'
          try simp only [Act.put, List.getElem_toArray, List.getElem_cons_succ, List.getElem_cons_zero, List.setIfInBounds_toArray, List.set_cons_zero, List.set_cons_succ]
          refine wpAnyH_ready (rs := [15]) (by kernel_rfl) (by simp) ?_
          refine AllReadyH.cons rfl (fun K' hK => ?_) AllReadyH.nil
          rw [if_pos (by rfl)]
          simp only [List.getElem_toArray, List.getElem_cons_succ, List.getElem_cons_zero]
          refine wp_load_by 63 (.tmp 7) rfl _ _ rfl L2 ?_
          refine hK.out _ _ (CD.out _ (Below.refl _ _)) (fun hHeld => ?_)
          clear hK K'
          try simp only [Act.put, List.getElem_toArray, List.getElem_cons_succ, List.getElem_cons_zero, List.setIfInBounds_toArray, List.set_cons_zero, List.set_cons_succ]
          refine wpAnyH_ready (rs := [16]) (by kernel_rfl) (by simp) ?_
          refine AllReadyH.cons rfl (fun K' hK => ?_) AllReadyH.nil
          rw [if_pos (by rfl)]
          simp only [List.getElem_toArray, List.getElem_cons_succ, List.getElem_cons_zero]
          go_wp2_with fail
          refine AH.mono ?_
          rintro e z9 ⟨rfl, b9⟩
          try go_wp2_with fail
          refine hK.out _ _ (CD.out _ b9) (fun hHeld => ?_)
          clear hK K'
          try simp only [Act.put, List.getElem_toArray, List.getElem_cons_succ, List.getElem_cons_zero, List.setIfInBounds_toArray, List.set_cons_zero, List.set_cons_succ]
          refine wpAnyH_take (i := 17) (v := (.bool true)) rfl (by kernel_rfl) (by kernel_rfl) (by kernel_rfl) (fun _ _ _ h => h) (Or.inl ⟨by rfl, ?_⟩) (by assumption) ?_
          · intro w9 hSw
            try dsimp only at hSw
            go_simp
            all_goals try decide
            all_goals try assumption
          try simp only [Act.put, List.getElem_toArray, List.getElem_cons_succ, List.getElem_cons_zero, List.setIfInBounds_toArray, List.set_cons_zero, List.set_cons_succ]
          refine wpAnyH_done (by kernel_rfl) ?_ _
          go_wp2_with fail
          exact ⟨⟨k + 1, rfl, by omega, HBW.out _ b9⟩, by simp [intOf]; omega⟩
        · rw [if_pos (by rfl)]
          simp only [List.getElem_toArray, List.getElem_cons_succ, List.getElem_cons_zero]
          refine wp_load_by 63 (.tmp 7) rfl _ _ rfl L2 ?_
          refine hK.out _ _ (CD.out _ (Below.refl _ _)) (fun hHeld => ?_)
          clear hK K'
          try simp only [Act.put, List.getElem_toArray, List.getElem_cons_succ, List.getElem_cons_zero, List.setIfInBounds_toArray, List.set_cons_zero, List.set_cons_succ]
          refine wpAnyH_ready (rs := [14]) (by kernel_rfl) (by simp) ?_
          refine AllReadyH.cons rfl (fun K' hK => ?_) AllReadyH.nil
          rw [if_pos (by rfl)]
          simp only [List.getElem_toArray, List.getElem_cons_succ, List.getElem_cons_zero]
          refine wp_load_by 63 (.tmp 41) rfl _ _ rfl L1 ?_
          refine hK.out _ _ (CD.out _ (Below.refl _ _)) (fun hHeld => ?_)
          clear hK K'
          try simp only [Act.put, List.getElem_toArray, List.getElem_cons_succ, List.getElem_cons_zero, List.setIfInBounds_toArray, List.set_cons_zero, List.set_cons_succ]
          refine wpAnyH_ready (rs := [16]) (by kernel_rfl) (by simp) ?_
          refine AllReadyH.cons rfl (fun K' hK => ?_) AllReadyH.nil
          rw [if_pos (by rfl)]
          simp only [List.getElem_toArray, List.getElem_cons_succ, List.getElem_cons_zero]
          go_wp2_with fail
          refine AH.mono ?_
          rintro e z9 ⟨rfl, b9⟩
          try go_wp2_with fail
          refine hK.out _ _ (CD.out _ b9) (fun hHeld => ?_)
          clear hK K'
          try simp only [Act.put, List.getElem_toArray, List.getElem_cons_succ, List.getElem_cons_zero, List.setIfInBounds_toArray, List.set_cons_zero, List.set_cons_succ]
          refine wpAnyH_take (i := 17) (v := (.bool true)) rfl (by kernel_rfl) (by kernel_rfl) (by kernel_rfl) (fun _ _ _ h => h) (Or.inl ⟨by rfl, ?_⟩) (by assumption) ?_
          · intro w9 hSw
            try dsimp only at hSw
            go_simp
            all_goals try decide
            all_goals try assumption
          try simp only [Act.put, List.getElem_toArray, List.getElem_cons_succ, List.getElem_cons_zero, List.setIfInBounds_toArray, List.set_cons_zero, List.set_cons_succ]
          refine wpAnyH_done (by kernel_rfl) ?_ _
          go_wp2_with fail
          exact ⟨⟨k + 1, rfl, by omega, HBW.out _ b9⟩, by simp [intOf]; omega⟩
      · have EKM : Hid (k = M) := by show k = M; omega
        rw [hahead.2 EKM.out] at AH
        generalize at_ l k = x at *
        clear hahead hx Bw bk DW
        go_wp2_with fail
        refine wp_region_held_drew (S := fun u => u.cell? ⟨p, 0, none⟩ = some (.slice (some ⟨g, o, none⟩) N cap)) (by kernel_rfl) (CD.out _ (Below.refl _ _)) (fun hHeld => ?_)
        refine wpAnyH_take (i := 0) (v := (.int .i64 (k : Int))) rfl (by kernel_rfl) (by kernel_rfl) (by kernel_rfl) (fun _ _ _ h => h) (Or.inl ⟨by rfl, ?_⟩) (by assumption) ?_
        · intro w9 hSw
          try dsimp only at hSw
          go_simp
          all_goals try decide
          all_goals try assumption
        try simp only [Act.put, List.getElem_toArray, List.getElem_cons_succ, List.getElem_cons_zero, List.setIfInBounds_toArray, List.set_cons_zero, List.set_cons_succ]
        refine wpAnyH_take (i := 1) (v := (.pointer (some ⟨p, 0, none⟩))) rfl (by kernel_rfl) (by kernel_rfl) (by kernel_rfl) (fun _ _ _ h => h) (Or.inl ⟨by rfl, ?_⟩) (by assumption) ?_
        · intro w9 hSw
          try dsimp only at hSw
          go_simp
          all_goals try decide
          all_goals try assumption
        try simp only [Act.put, List.getElem_toArray, List.getElem_cons_succ, List.getElem_cons_zero, List.setIfInBounds_toArray, List.set_cons_zero, List.set_cons_succ]
        refine wpAnyH_take (i := 2) (v := (.pointer (some ⟨p, 0, none⟩))) rfl (by kernel_rfl) (by kernel_rfl) (by kernel_rfl) (fun _ _ _ h => h) (Or.inl ⟨by rfl, ?_⟩) (by assumption) ?_
        · intro w9 hSw
          try dsimp only at hSw
          go_simp
          all_goals try decide
          all_goals try assumption
        try simp only [Act.put, List.getElem_toArray, List.getElem_cons_succ, List.getElem_cons_zero, List.setIfInBounds_toArray, List.set_cons_zero, List.set_cons_succ]
        refine wpAnyH_take (i := 3) (v := (.pointer (some ⟨p, 0, none⟩))) rfl (by kernel_rfl) (by kernel_rfl) (by kernel_rfl) (fun _ _ _ h => h) (Or.inl ⟨by rfl, ?_⟩) (by assumption) ?_
        · intro w9 hSw
          try dsimp only at hSw
          go_simp
          all_goals try decide
          all_goals try assumption
        try simp only [Act.put, List.getElem_toArray, List.getElem_cons_succ, List.getElem_cons_zero, List.setIfInBounds_toArray, List.set_cons_zero, List.set_cons_succ]
        refine wpAnyH_take (i := 4) (v := (.slice (some ⟨g, o, none⟩) N cap)) rfl (by kernel_rfl) (by kernel_rfl) (by kernel_rfl) (fun _ _ _ h => h) (Or.inl ⟨by rfl, ?_⟩) (by assumption) ?_
        · intro w9 hSw
          try dsimp only at hSw
          go_simp
          all_goals try decide
          all_goals try assumption
        try simp only [Act.put, List.getElem_toArray, List.getElem_cons_succ, List.getElem_cons_zero, List.setIfInBounds_toArray, List.set_cons_zero, List.set_cons_succ]
        refine wpAnyH_take (i := 5) (v := (.int .i64 (N : Int))) rfl (by kernel_rfl) (by kernel_rfl) (by kernel_rfl) (fun _ _ _ h => h) (Or.inl ⟨by rfl, ?_⟩) (by assumption) ?_
        · intro w9 hSw
          try dsimp only at hSw
          go_simp
          all_goals try decide
          all_goals try assumption
        try simp only [Act.put, List.getElem_toArray, List.getElem_cons_succ, List.getElem_cons_zero, List.setIfInBounds_toArray, List.set_cons_zero, List.set_cons_succ]
        refine wpAnyH_take (i := 6) (v := (.bool true)) rfl (by kernel_rfl) (by kernel_rfl) (by kernel_rfl) (fun _ _ _ h => h) (Or.inl ⟨by rfl, ?_⟩) (by assumption) ?_
        · intro w9 hSw
          try dsimp only at hSw
          go_simp
          all_goals try decide
          all_goals try assumption
        try simp only [Act.put, List.getElem_toArray, List.getElem_cons_succ, List.getElem_cons_zero, List.setIfInBounds_toArray, List.set_cons_zero, List.set_cons_succ]
        refine wpAnyH_take (i := 7) (v := (.bool true)) rfl (by kernel_rfl) (by kernel_rfl) (by kernel_rfl) (fun _ _ _ h => h) (Or.inl ⟨by rfl, ?_⟩) (by assumption) ?_
        · intro w9 hSw
          try dsimp only at hSw
          go_simp
          all_goals try decide
          all_goals try assumption
        try simp only [Act.put, List.getElem_toArray, List.getElem_cons_succ, List.getElem_cons_zero, List.setIfInBounds_toArray, List.set_cons_zero, List.set_cons_succ]
        refine wpAnyH_take (i := 8) (v := (.pointer (some ⟨p, 0, none⟩))) rfl (by kernel_rfl) (by kernel_rfl) (by kernel_rfl) (fun _ _ _ h => h) (Or.inl ⟨by rfl, ?_⟩) (by assumption) ?_
        · intro w9 hSw
          try dsimp only at hSw
          go_simp
          all_goals try decide
          all_goals try assumption
        try simp only [Act.put, List.getElem_toArray, List.getElem_cons_succ, List.getElem_cons_zero, List.setIfInBounds_toArray, List.set_cons_zero, List.set_cons_succ]
        refine wpAnyH_take (i := 9) (v := (.pointer (some ⟨p, 0, none⟩))) rfl (by kernel_rfl) (by kernel_rfl) (by kernel_rfl) (fun _ _ _ h => h) (Or.inl ⟨by rfl, ?_⟩) (by assumption) ?_
        · intro w9 hSw
          try dsimp only at hSw
          go_simp
          all_goals try decide
          all_goals try assumption
        try simp only [Act.put, List.getElem_toArray, List.getElem_cons_succ, List.getElem_cons_zero, List.setIfInBounds_toArray, List.set_cons_zero, List.set_cons_succ]
        refine wpAnyH_take (i := 10) (v := (.pointer (some ⟨p, 0, none⟩))) rfl (by kernel_rfl) (by kernel_rfl) (by kernel_rfl) (fun _ _ _ h => h) (Or.inl ⟨by rfl, ?_⟩) (by assumption) ?_
        · intro w9 hSw
          try dsimp only at hSw
          go_simp
          all_goals try decide
          all_goals try assumption
        try simp only [Act.put, List.getElem_toArray, List.getElem_cons_succ, List.getElem_cons_zero, List.setIfInBounds_toArray, List.set_cons_zero, List.set_cons_succ]
        refine wpAnyH_take (i := 11) (v := (.slice (some ⟨g, o, none⟩) N cap)) rfl (by kernel_rfl) (by kernel_rfl) (by kernel_rfl) (fun _ _ _ h => h) (Or.inl ⟨by rfl, ?_⟩) (by assumption) ?_
        · intro w9 hSw
          try dsimp only at hSw
          go_simp
          all_goals try decide
          all_goals try assumption
        try simp only [Act.put, List.getElem_toArray, List.getElem_cons_succ, List.getElem_cons_zero, List.setIfInBounds_toArray, List.set_cons_zero, List.set_cons_succ]
        refine wpAnyH_take (i := 12) (v := (.int .i64 (k : Int))) rfl (by kernel_rfl) (by kernel_rfl) (by kernel_rfl) (fun _ _ _ h => h) (Or.inl ⟨by rfl, ?_⟩) (by assumption) ?_
        · intro w9 hSw
          try dsimp only at hSw
          go_simp
          all_goals try decide
          all_goals try assumption
        try simp only [Act.put, List.getElem_toArray, List.getElem_cons_succ, List.getElem_cons_zero, List.setIfInBounds_toArray, List.set_cons_zero, List.set_cons_succ]
        refine wpAnyH_take (i := 13) (v := (.pointer (some ⟨g, o + k * 13, none⟩))) rfl (by kernel_rfl) (by kernel_rfl) (by kernel_rfl) (fun _ _ _ h => h) (Or.inl ⟨by rfl, ?_⟩) (by assumption) ?_
        · intro w9 hSw
          try dsimp only at hSw
          go_simp
          all_goals try decide
          all_goals try assumption
        try simp only [Act.put, List.getElem_toArray, List.getElem_cons_succ, List.getElem_cons_zero, List.setIfInBounds_toArray, List.set_cons_zero, List.set_cons_succ]
        refine wpAnyH_ready (rs := [14, 15]) (by kernel_rfl) (by simp) ?_
        refine AllReadyH.cons rfl (fun K' hK => ?_) (AllReadyH.cons rfl (fun K' hK => ?_) AllReadyH.nil)
        · rw [if_pos (by rfl)]
          simp only [List.getElem_toArray, List.getElem_cons_succ, List.getElem_cons_zero]
          refine wp_load_by 63 (.tmp 41) rfl _ _ rfl L1 ?_
          refine hK.out _ _ (CD.out _ (Below.refl _ _)) (fun hHeld => ?_)
          clear hK K'
          try simp only [Act.put, List.getElem_toArray, List.getElem_cons_succ, List.getElem_cons_zero, List.setIfInBounds_toArray, List.set_cons_zero, List.set_cons_succ]
          refine wpAnyH_ready (rs := [15]) (by kernel_rfl) (by simp) ?_
          refine AllReadyH.cons rfl (fun K' hK => ?_) AllReadyH.nil
          rw [if_pos (by rfl)]
          simp only [List.getElem_toArray, List.getElem_cons_succ, List.getElem_cons_zero]
          refine wp_load_by 63 (.tmp 7) rfl _ _ rfl L2 ?_
          refine hK.out _ _ (CD.out _ (Below.refl _ _)) (fun hHeld => ?_)
          clear hK K'
          try simp only [Act.put, List.getElem_toArray, List.getElem_cons_succ, List.getElem_cons_zero, List.setIfInBounds_toArray, List.set_cons_zero, List.set_cons_succ]
          refine wpAnyH_ready (rs := [16]) (by kernel_rfl) (by simp) ?_
          refine AllReadyH.cons rfl (fun K' hK => ?_) AllReadyH.nil
          rw [if_pos (by rfl)]
          simp only [List.getElem_toArray, List.getElem_cons_succ, List.getElem_cons_zero]
          go_wp2_with fail
          refine AH.mono ?_
          rintro e z9 ⟨rfl, b9⟩
          try go_wp2_with fail
          refine hK.out _ _ (CD.out _ b9) (fun hHeld => ?_)
          clear hK K'
          try simp only [Act.put, List.getElem_toArray, List.getElem_cons_succ, List.getElem_cons_zero, List.setIfInBounds_toArray, List.set_cons_zero, List.set_cons_succ]
          refine wpAnyH_take (i := 17) (v := (.bool false)) rfl (by kernel_rfl) (by kernel_rfl) (by kernel_rfl) (fun _ _ _ h => h) (Or.inl ⟨by rfl, ?_⟩) (by assumption) ?_
          · intro w9 hSw
            try dsimp only at hSw
            go_simp
            all_goals try decide
            all_goals try assumption
          try simp only [Act.put, List.getElem_toArray, List.getElem_cons_succ, List.getElem_cons_zero, List.setIfInBounds_toArray, List.set_cons_zero, List.set_cons_succ]
          refine wpAnyH_done (by kernel_rfl) ?_ _
          have BX := HBW.out _ b9
          clear HBW CD AH L1 L2 b9
          have ekM := EKM.out
          subst ekM
          have BW : Below w.heap.size w z9 := Below.andThen HBS.out BX
          have k0 := (HN.out z9 BW).c0
          have ht : (l.take k).length = k := by rw [List.length_take, ← hN.out]; omega
          have hd : (l.drop k).length = N - k := by rw [List.length_drop, ← hN.out]
          obtain ⟨o3, ho3⟩ : ∃ o3, Hid (o3 = if cap = k then o else o + k * 13) := ⟨_, rfl⟩
          have SL1 : ∀ w, (Instr.slice 34 (.slice (some ⟨g, o, none⟩) N cap) none (some (.int .i64 (k : Int))) none).run Try.prog w = .ok (.slice (some ⟨g, o, none⟩) k cap) w := fun w => by
            have q1 : (k : Int) ≤ (cap : Int) := by omega
            have q2 : ¬ (cap : Int) < (k : Int) := by omega
            have q3 : (0 : Int) ≤ (k : Int) := by omega
            clear k0 HN HC HBS HSB 
            go_simp
            all_goals try omega
          have SL2 : ∀ w, (Instr.slice 34 (.slice (some ⟨g, o, none⟩) N cap) (some (.int .i64 (k : Int))) none none).run Try.prog w = .ok (.slice (some ⟨g, o3, none⟩) (N - k) (cap - k)) w := fun w => by
            have q1 : (k : Int) ≤ (N : Int) := by omega
            have q2 : ¬ (N : Int) < (k : Int) := by omega
            have q3 : (0 : Int) ≤ (k : Int) := by omega
            rw [ho3.out]
            clear k0 HN HC HBS HSB SL1
            by_cases c9 : cap = k
            · rw [if_pos c9]
              go_simp
              all_goals try omega
            · rw [if_neg c9]
              go_simp
              all_goals try omega
          have CW1 : Hid (∀ x, Below z9.heap.size z9 x → CellsR x g o (l.take k)) := fun x hx => fun i x' hi' => (HC.out x (Below.andThen BW hx)) i x' (by rw [List.getElem?_take] at hi'; split at hi'; exact hi'; cases hi')
          have CW2 : Hid (∀ x, Below z9.heap.size z9 x → CellsR x g o3 (l.drop k)) := fun x hx => fun i x' hi' => by
            rw [List.getElem?_drop] at hi'
            have hlt := (List.getElem?_eq_some_iff.1 hi').1
            rw [ho3.out, if_neg (by rw [← hN.out] at hlt; omega)]
            intro j u hu
            have := (HC.out x (Below.andThen BW hx)) (k + i) x' hi' j u hu
            rw [show o + k * 13 + i * 13 + j = o + (k + i) * 13 + j from by omega]
            exact this
          have BW0 : Hid (Below w.heap.size w z9) := BW
          have SBW : z9.heap[sb]? = some (.cells y.A 63 (0, 0)) := (BX.block sb (lt_of_heap HSB.out)).trans HSB.out
          have hsbl : sb < z9.heap.size := lt_of_heap SBW
          have BAS : Hid (w.heap.size ≤ z9.heap.size) := BW.size
          have NW1 : Hid _ := fun j u hj => cellsR_flat (CW1.out z9 (Below.refl _ _)) j u hj
          have GR1 : Hid (∀ v1 y1, y1.ownsRow z9.heap.size 63 13 v1 (0 + k) ([] ++ flat (l.take k)) → z9.grownBy y1 (Value.ownBlock (.slice none 0 0)) → y1.cell? ⟨sb, 0, none⟩ = some (.int .i64 y.nd) ∧ y1.cell? ⟨sb, 1, none⟩ = some (.int .u16 y.i) ∧ y1.cell? ⟨sb, 2, none⟩ = some (.int .i64 y.n) ∧ y1.cell? ⟨sb, 3, none⟩ = some (.int .u8 y.d0) ∧ y1.cell? ⟨sb, 4, none⟩ = some (.int .u8 y.d1) ∧ y1.cell? ⟨sb, 5, none⟩ = some (.int .u8 y.d2) ∧ y1.cell? ⟨sb, 6, none⟩ = some (.int .u8 y.d3) ∧ y1.cell? ⟨sb, 7, none⟩ = some (.int .u8 y.d4) ∧ y1.cell? ⟨sb, 8, none⟩ = some (.int .u8 y.d5) ∧ y1.cell? ⟨sb, 9, none⟩ = some (.int .u8 y.d6) ∧ y1.cell? ⟨sb, 10, none⟩ = some (.int .u8 y.d7) ∧ y1.cell? ⟨sb, 11, none⟩ = some (.bool y.r) ∧ y1.cell? ⟨sb, 12, none⟩ = some (.int .i64 y.nm) ∧ Hid (OwnR y1 z9.heap.size v1 (l.take k)) ∧ Hid (Below z9.heap.size z9 y1)) := fun v1 y1 own1 grow1 => by
            have O1 : OwnR y1 z9.heap.size v1 (l.take k) := by
              show y1.ownsRow _ 63 13 _ (l.take k).length _
              rw [ht]
              rw [Nat.zero_add, List.nil_append] at own1
              exact own1
            have b1 : Below z9.heap.size z9 y1 := (Below.refl _ _).grown grow1 (Nat.le_refl _) (fun j hj => by simp [Value.ownBlock] at hj)
            have hs1 : y1.heap[sb]? = some (.cells y.A 63 (0, 0)) := (b1.block sb hsbl).trans SBW
            exact ⟨by rw [cell_of_row y1 _ 0 _ _ _ hs1]; rfl, by rw [cell_of_row y1 _ 1 _ _ _ hs1]; rfl, by rw [cell_of_row y1 _ 2 _ _ _ hs1]; rfl, by rw [cell_of_row y1 _ 3 _ _ _ hs1]; rfl, by rw [cell_of_row y1 _ 4 _ _ _ hs1]; rfl, by rw [cell_of_row y1 _ 5 _ _ _ hs1]; rfl, by rw [cell_of_row y1 _ 6 _ _ _ hs1]; rfl, by rw [cell_of_row y1 _ 7 _ _ _ hs1]; rfl, by rw [cell_of_row y1 _ 8 _ _ _ hs1]; rfl, by rw [cell_of_row y1 _ 9 _ _ _ hs1]; rfl, by rw [cell_of_row y1 _ 10 _ _ _ hs1]; rfl, by rw [cell_of_row y1 _ 11 _ _ _ hs1]; rfl, by rw [cell_of_row y1 _ 12 _ _ _ hs1]; rfl, O1, b1⟩
          have GR2 : Hid (∀ v1 y1 b v2 y2, OwnR y1 z9.heap.size v1 (l.take k) → Below z9.heap.size z9 y1 → y2.ownsRow z9.heap.size 63 13 v2 ((l.take k).length + 1) (flat (l.take k) ++ y.L) → (World.alloc y1 b).grownBy y2 v1.ownBlock → y2.cell? ⟨p, 0, none⟩ = some (.slice (some ⟨g, o, none⟩) N cap) ∧ Hid (OwnR y2 z9.heap.size v2 (l.take k ++ [y])) ∧ Hid (Below z9.heap.size z9 y2) ∧ Hid (∀ j u, (flat (l.drop k))[j]? = some u → y2.cell? ((⟨g, o3, none⟩ : Addr).add j) = some u)) := fun v1 y1 b v2 y2 O1 b1 own2 grow2 => by
            have O2 : OwnR y2 z9.heap.size v2 (l.take k ++ [y]) := by
              show y2.ownsRow _ 63 13 _ (l.take k ++ [y]).length (flat (l.take k ++ [y]))
              rw [flat_app, flat_one, List.length_append]
              exact own2
            have b2 : Below z9.heap.size z9 y2 := (Below.al b1 _).grown grow2 (Nat.le_trans b1.size (by simp)) (fun j hj => (O1.lt j hj).1)
            exact ⟨((HN.out z9 BW0.out).next b2).c0, O2, b2, fun j u hj => cellsR_flat (CW2.out y2 b2) j u hj⟩
          have hins : insN y l = l.take k ++ [y] ++ l.drop k := by unfold insN; rw [← hM.out]
          have GR3 : Hid (∀ v2 y2 v3 y3, OwnR y2 z9.heap.size v2 (l.take k ++ [y]) → Below z9.heap.size z9 y2 → y3.ownsRow z9.heap.size 63 13 v3 ((l.take k ++ [y]).length + (N - k)) (flat (l.take k ++ [y]) ++ flat (l.drop k)) → y2.grownBy y3 v2.ownBlock → ∃ a3 n3 c3, v3 = .slice a3 n3 c3 ∧ y3.cell? ⟨p, 0, none⟩ = some (.slice (some ⟨g, o, none⟩) N cap) ∧ y3.frozen? ⟨p, 0, none⟩ = false ∧ (y3.setCell ⟨p, 0, none⟩ v3).cell? ⟨p, 1, none⟩ = some (.int .i64 y.nm) ∧ (y3.setCell ⟨p, 0, none⟩ v3).frozen? ⟨p, 1, none⟩ = false ∧ Hid ((∃ v', IsD ((y3.setCell ⟨p, 0, none⟩ v3).setCell ⟨p, 1, none⟩ (.int .i64 (y.nm + 1))) p v' (insN y l) (y.nm + 1)) ∧ Kp [p] w ((y3.setCell ⟨p, 0, none⟩ v3).setCell ⟨p, 1, none⟩ (.int .i64 (y.nm + 1))))) := fun v2 y2 v3 y3 O2 b2 own3 grow3 => by
            have O3 : OwnR y3 z9.heap.size v3 (insN y l) := by
              rw [hins]
              show y3.ownsRow _ 63 13 _ (l.take k ++ [y] ++ l.drop k).length (flat (l.take k ++ [y] ++ l.drop k))
              rw [flat_app (l.take k ++ [y]), show (l.take k ++ [y] ++ l.drop k).length = (l.take k ++ [y]).length + (N - k) from by rw [List.length_append, hd]]
              exact own3
            have b3 : Below z9.heap.size z9 y3 := b2.grown grow3 b2.size (fun j hj => (O2.lt j hj).1)
            have D3 := (HN.out z9 BW0.out).next b3
            have D4 : IsD (y3.setCell ⟨p, 0, none⟩ v3) p v3 (insN y l) y.nm := ⟨by rw [heap_setCell_same y3 p 0 _ _ _ D3.head]; rfl, isR_set D3.head (isR_own O3)⟩
            obtain ⟨a3, c3, e3⟩ := ownR_form O3
            exact ⟨a3, _, c3, e3, D3.c0, D3.fz 0, D4.c1, D4.fz 1, ⟨_, D4.set1 _⟩, ((Kp.of (Below.andThen BW0.out b3)).set _ _ (.inl (by simp))).set _ _ (.inl (by simp))⟩
          have lt2 : (l.take k ++ [y]).length = k + 1 := by rw [List.length_append, ht]; rfl
          clear BW BX HN HC HSB HBS CW1 CW2 SBW hins
          go_wp2_with (first | (at_builtin; refine wpList_append_own _ rfl _ _ 34 rfl z9.heap.size 63 i0 _ 13 48 Try.underlying34 hi hz0 hz1 hz2 rfl (by decide) (.slice none 0 0) 0 [] rfl (World.ownsRow_nil _ _ _ _) ⟨g, o, none⟩ k cap (flat (l.take k)) rfl (by rw [flat_len, ht]) NW1.out (oneR _) (by unfold maxLen; omega) (by omega) (Nat.le_refl _) ?_; intro v1 y1 own1 grow1 _; obtain ⟨s0, s1, s2, s3, s4, s5, s6, s7, s8, s9, s10, s11, s12, O1, B1⟩ := GR1.out v1 y1 own1 grow1; clear own1 grow1) | (at_builtin; refine wpList_append_own _ rfl _ _ 34 rfl z9.heap.size 63 i0 _ 13 48 Try.underlying34 hi hz0 hz1 hz2 rfl (by decide) _ (l.take k).length (flat (l.take k)) rfl (ownR_next O1.out (Below.al (Below.refl _ _) _)) ⟨y1.heap.size, 0, none⟩ 1 1 y.L rfl (Sn.L_len y) (fun j u hj => by rw [Addr.add_lit, Nat.zero_add, World.cell?_alloc_new, ← hj]; simp [Sn.L]) (fun u hu => by simp [Sn.L] at hu; rcases hu with rfl | rfl | rfl | rfl | rfl | rfl | rfl | rfl | rfl | rfl | rfl | rfl | rfl <;> rfl) (by unfold maxLen; omega) (by omega) (Nat.le_trans B1.out.size (by simp)) ?_; intro v2 y2 own2 grow2 _; obtain ⟨k2, O2, B2, NW2⟩ := GR2.out v1 y1 _ v2 y2 O1.out B1.out own2 grow2; clear own2 grow2) | (at_builtin; refine wpList_append_own _ rfl _ _ 34 rfl z9.heap.size 63 i0 _ 13 48 Try.underlying34 hi hz0 hz1 hz2 rfl (by decide) _ (l.take k ++ [y]).length (flat (l.take k ++ [y])) rfl O2.out ⟨g, o3, none⟩ (N - k) (cap - k) (flat (l.drop k)) rfl (by rw [flat_len, hd]) NW2.out (oneR _) (by unfold maxLen; omega) (by omega) B2.out.size ?_; intro v3 y3 own3 grow3 _; obtain ⟨a3, n3, c3, rfl, k3, f3, k4, f4, RES⟩ := GR3.out v2 y2 v3 y3 O2.out B2.out own3 grow3; clear own3 grow3))
          go_ret
          exact ⟨rfl, RES.out⟩
        · rw [if_pos (by rfl)]
          simp only [List.getElem_toArray, List.getElem_cons_succ, List.getElem_cons_zero]
          refine wp_load_by 63 (.tmp 7) rfl _ _ rfl L2 ?_
          refine hK.out _ _ (CD.out _ (Below.refl _ _)) (fun hHeld => ?_)
          clear hK K'
          try simp only [Act.put, List.getElem_toArray, List.getElem_cons_succ, List.getElem_cons_zero, List.setIfInBounds_toArray, List.set_cons_zero, List.set_cons_succ]
          refine wpAnyH_ready (rs := [14]) (by kernel_rfl) (by simp) ?_
          refine AllReadyH.cons rfl (fun K' hK => ?_) AllReadyH.nil
          rw [if_pos (by rfl)]
          simp only [List.getElem_toArray, List.getElem_cons_succ, List.getElem_cons_zero]
          refine wp_load_by 63 (.tmp 41) rfl _ _ rfl L1 ?_
          refine hK.out _ _ (CD.out _ (Below.refl _ _)) (fun hHeld => ?_)
          clear hK K'
          try simp only [Act.put, List.getElem_toArray, List.getElem_cons_succ, List.getElem_cons_zero, List.setIfInBounds_toArray, List.set_cons_zero, List.set_cons_succ]
          refine wpAnyH_ready (rs := [16]) (by kernel_rfl) (by simp) ?_
          refine AllReadyH.cons rfl (fun K' hK => ?_) AllReadyH.nil
          rw [if_pos (by rfl)]
          simp only [List.getElem_toArray, List.getElem_cons_succ, List.getElem_cons_zero]
          go_wp2_with fail
          refine AH.mono ?_
          rintro e z9 ⟨rfl, b9⟩
          try go_wp2_with fail
          refine hK.out _ _ (CD.out _ b9) (fun hHeld => ?_)
          clear hK K'
          try simp only [Act.put, List.getElem_toArray, List.getElem_cons_succ, List.getElem_cons_zero, List.setIfInBounds_toArray, List.set_cons_zero, List.set_cons_succ]
          refine wpAnyH_take (i := 17) (v := (.bool false)) rfl (by kernel_rfl) (by kernel_rfl) (by kernel_rfl) (fun _ _ _ h => h) (Or.inl ⟨by rfl, ?_⟩) (by assumption) ?_
          · intro w9 hSw
            try dsimp only at hSw
            go_simp
            all_goals try decide
            all_goals try assumption
          try simp only [Act.put, List.getElem_toArray, List.getElem_cons_succ, List.getElem_cons_zero, List.setIfInBounds_toArray, List.set_cons_zero, List.set_cons_succ]
          refine wpAnyH_done (by kernel_rfl) ?_ _
          have BX := HBW.out _ b9
          clear HBW CD AH L1 L2 b9
          have ekM := EKM.out
          subst ekM
          have BW : Below w.heap.size w z9 := Below.andThen HBS.out BX
          have k0 := (HN.out z9 BW).c0
          have ht : (l.take k).length = k := by rw [List.length_take, ← hN.out]; omega
          have hd : (l.drop k).length = N - k := by rw [List.length_drop, ← hN.out]
          obtain ⟨o3, ho3⟩ : ∃ o3, Hid (o3 = if cap = k then o else o + k * 13) := ⟨_, rfl⟩
          have SL1 : ∀ w, (Instr.slice 34 (.slice (some ⟨g, o, none⟩) N cap) none (some (.int .i64 (k : Int))) none).run Try.prog w = .ok (.slice (some ⟨g, o, none⟩) k cap) w := fun w => by
            have q1 : (k : Int) ≤ (cap : Int) := by omega
            have q2 : ¬ (cap : Int) < (k : Int) := by omega
            have q3 : (0 : Int) ≤ (k : Int) := by omega
            clear k0 HN HC HBS HSB 
            go_simp
            all_goals try omega
          have SL2 : ∀ w, (Instr.slice 34 (.slice (some ⟨g, o, none⟩) N cap) (some (.int .i64 (k : Int))) none none).run Try.prog w = .ok (.slice (some ⟨g, o3, none⟩) (N - k) (cap - k)) w := fun w => by
            have q1 : (k : Int) ≤ (N : Int) := by omega
            have q2 : ¬ (N : Int) < (k : Int) := by omega
            have q3 : (0 : Int) ≤ (k : Int) := by omega
            rw [ho3.out]
            clear k0 HN HC HBS HSB SL1
            by_cases c9 : cap = k
            · rw [if_pos c9]
              go_simp
              all_goals try omega
            · rw [if_neg c9]
              go_simp
              all_goals try omega
          have CW1 : Hid (∀ x, Below z9.heap.size z9 x → CellsR x g o (l.take k)) := fun x hx => fun i x' hi' => (HC.out x (Below.andThen BW hx)) i x' (by rw [List.getElem?_take] at hi'; split at hi'; exact hi'; cases hi')
          have CW2 : Hid (∀ x, Below z9.heap.size z9 x → CellsR x g o3 (l.drop k)) := fun x hx => fun i x' hi' => by
            rw [List.getElem?_drop] at hi'
            have hlt := (List.getElem?_eq_some_iff.1 hi').1
            rw [ho3.out, if_neg (by rw [← hN.out] at hlt; omega)]
            intro j u hu
            have := (HC.out x (Below.andThen BW hx)) (k + i) x' hi' j u hu
            rw [show o + k * 13 + i * 13 + j = o + (k + i) * 13 + j from by omega]
            exact this
          have BW0 : Hid (Below w.heap.size w z9) := BW
          have SBW : z9.heap[sb]? = some (.cells y.A 63 (0, 0)) := (BX.block sb (lt_of_heap HSB.out)).trans HSB.out
          have hsbl : sb < z9.heap.size := lt_of_heap SBW
          have BAS : Hid (w.heap.size ≤ z9.heap.size) := BW.size
          have NW1 : Hid _ := fun j u hj => cellsR_flat (CW1.out z9 (Below.refl _ _)) j u hj
          have GR1 : Hid (∀ v1 y1, y1.ownsRow z9.heap.size 63 13 v1 (0 + k) ([] ++ flat (l.take k)) → z9.grownBy y1 (Value.ownBlock (.slice none 0 0)) → y1.cell? ⟨sb, 0, none⟩ = some (.int .i64 y.nd) ∧ y1.cell? ⟨sb, 1, none⟩ = some (.int .u16 y.i) ∧ y1.cell? ⟨sb, 2, none⟩ = some (.int .i64 y.n) ∧ y1.cell? ⟨sb, 3, none⟩ = some (.int .u8 y.d0) ∧ y1.cell? ⟨sb, 4, none⟩ = some (.int .u8 y.d1) ∧ y1.cell? ⟨sb, 5, none⟩ = some (.int .u8 y.d2) ∧ y1.cell? ⟨sb, 6, none⟩ = some (.int .u8 y.d3) ∧ y1.cell? ⟨sb, 7, none⟩ = some (.int .u8 y.d4) ∧ y1.cell? ⟨sb, 8, none⟩ = some (.int .u8 y.d5) ∧ y1.cell? ⟨sb, 9, none⟩ = some (.int .u8 y.d6) ∧ y1.cell? ⟨sb, 10, none⟩ = some (.int .u8 y.d7) ∧ y1.cell? ⟨sb, 11, none⟩ = some (.bool y.r) ∧ y1.cell? ⟨sb, 12, none⟩ = some (.int .i64 y.nm) ∧ Hid (OwnR y1 z9.heap.size v1 (l.take k)) ∧ Hid (Below z9.heap.size z9 y1)) := fun v1 y1 own1 grow1 => by
            have O1 : OwnR y1 z9.heap.size v1 (l.take k) := by
              show y1.ownsRow _ 63 13 _ (l.take k).length _
              rw [ht]
              rw [Nat.zero_add, List.nil_append] at own1
              exact own1
            have b1 : Below z9.heap.size z9 y1 := (Below.refl _ _).grown grow1 (Nat.le_refl _) (fun j hj => by simp [Value.ownBlock] at hj)
            have hs1 : y1.heap[sb]? = some (.cells y.A 63 (0, 0)) := (b1.block sb hsbl).trans SBW
            exact ⟨by rw [cell_of_row y1 _ 0 _ _ _ hs1]; rfl, by rw [cell_of_row y1 _ 1 _ _ _ hs1]; rfl, by rw [cell_of_row y1 _ 2 _ _ _ hs1]; rfl, by rw [cell_of_row y1 _ 3 _ _ _ hs1]; rfl, by rw [cell_of_row y1 _ 4 _ _ _ hs1]; rfl, by rw [cell_of_row y1 _ 5 _ _ _ hs1]; rfl, by rw [cell_of_row y1 _ 6 _ _ _ hs1]; rfl, by rw [cell_of_row y1 _ 7 _ _ _ hs1]; rfl, by rw [cell_of_row y1 _ 8 _ _ _ hs1]; rfl, by rw [cell_of_row y1 _ 9 _ _ _ hs1]; rfl, by rw [cell_of_row y1 _ 10 _ _ _ hs1]; rfl, by rw [cell_of_row y1 _ 11 _ _ _ hs1]; rfl, by rw [cell_of_row y1 _ 12 _ _ _ hs1]; rfl, O1, b1⟩
          have GR2 : Hid (∀ v1 y1 b v2 y2, OwnR y1 z9.heap.size v1 (l.take k) → Below z9.heap.size z9 y1 → y2.ownsRow z9.heap.size 63 13 v2 ((l.take k).length + 1) (flat (l.take k) ++ y.L) → (World.alloc y1 b).grownBy y2 v1.ownBlock → y2.cell? ⟨p, 0, none⟩ = some (.slice (some ⟨g, o, none⟩) N cap) ∧ Hid (OwnR y2 z9.heap.size v2 (l.take k ++ [y])) ∧ Hid (Below z9.heap.size z9 y2) ∧ Hid (∀ j u, (flat (l.drop k))[j]? = some u → y2.cell? ((⟨g, o3, none⟩ : Addr).add j) = some u)) := fun v1 y1 b v2 y2 O1 b1 own2 grow2 => by
            have O2 : OwnR y2 z9.heap.size v2 (l.take k ++ [y]) := by
              show y2.ownsRow _ 63 13 _ (l.take k ++ [y]).length (flat (l.take k ++ [y]))
              rw [flat_app, flat_one, List.length_append]
              exact own2
            have b2 : Below z9.heap.size z9 y2 := (Below.al b1 _).grown grow2 (Nat.le_trans b1.size (by simp)) (fun j hj => (O1.lt j hj).1)
            exact ⟨((HN.out z9 BW0.out).next b2).c0, O2, b2, fun j u hj => cellsR_flat (CW2.out y2 b2) j u hj⟩
          have hins : insN y l = l.take k ++ [y] ++ l.drop k := by unfold insN; rw [← hM.out]
          have GR3 : Hid (∀ v2 y2 v3 y3, OwnR y2 z9.heap.size v2 (l.take k ++ [y]) → Below z9.heap.size z9 y2 → y3.ownsRow z9.heap.size 63 13 v3 ((l.take k ++ [y]).length + (N - k)) (flat (l.take k ++ [y]) ++ flat (l.drop k)) → y2.grownBy y3 v2.ownBlock → ∃ a3 n3 c3, v3 = .slice a3 n3 c3 ∧ y3.cell? ⟨p, 0, none⟩ = some (.slice (some ⟨g, o, none⟩) N cap) ∧ y3.frozen? ⟨p, 0, none⟩ = false ∧ (y3.setCell ⟨p, 0, none⟩ v3).cell? ⟨p, 1, none⟩ = some (.int .i64 y.nm) ∧ (y3.setCell ⟨p, 0, none⟩ v3).frozen? ⟨p, 1, none⟩ = false ∧ Hid ((∃ v', IsD ((y3.setCell ⟨p, 0, none⟩ v3).setCell ⟨p, 1, none⟩ (.int .i64 (y.nm + 1))) p v' (insN y l) (y.nm + 1)) ∧ Kp [p] w ((y3.setCell ⟨p, 0, none⟩ v3).setCell ⟨p, 1, none⟩ (.int .i64 (y.nm + 1))))) := fun v2 y2 v3 y3 O2 b2 own3 grow3 => by
            have O3 : OwnR y3 z9.heap.size v3 (insN y l) := by
              rw [hins]
              show y3.ownsRow _ 63 13 _ (l.take k ++ [y] ++ l.drop k).length (flat (l.take k ++ [y] ++ l.drop k))
              rw [flat_app (l.take k ++ [y]), show (l.take k ++ [y] ++ l.drop k).length = (l.take k ++ [y]).length + (N - k) from by rw [List.length_append, hd]]
              exact own3
            have b3 : Below z9.heap.size z9 y3 := b2.grown grow3 b2.size (fun j hj => (O2.lt j hj).1)
            have D3 := (HN.out z9 BW0.out).next b3
            have D4 : IsD (y3.setCell ⟨p, 0, none⟩ v3) p v3 (insN y l) y.nm := ⟨by rw [heap_setCell_same y3 p 0 _ _ _ D3.head]; rfl, isR_set D3.head (isR_own O3)⟩
            obtain ⟨a3, c3, e3⟩ := ownR_form O3
            exact ⟨a3, _, c3, e3, D3.c0, D3.fz 0, D4.c1, D4.fz 1, ⟨_, D4.set1 _⟩, ((Kp.of (Below.andThen BW0.out b3)).set _ _ (.inl (by simp))).set _ _ (.inl (by simp))⟩
          have lt2 : (l.take k ++ [y]).length = k + 1 := by rw [List.length_append, ht]; rfl
          clear BW BX HN HC HSB HBS CW1 CW2 SBW hins
          go_wp2_with (first | (at_builtin; refine wpList_append_own _ rfl _ _ 34 rfl z9.heap.size 63 i0 _ 13 48 Try.underlying34 hi hz0 hz1 hz2 rfl (by decide) (.slice none 0 0) 0 [] rfl (World.ownsRow_nil _ _ _ _) ⟨g, o, none⟩ k cap (flat (l.take k)) rfl (by rw [flat_len, ht]) NW1.out (oneR _) (by unfold maxLen; omega) (by omega) (Nat.le_refl _) ?_; intro v1 y1 own1 grow1 _; obtain ⟨s0, s1, s2, s3, s4, s5, s6, s7, s8, s9, s10, s11, s12, O1, B1⟩ := GR1.out v1 y1 own1 grow1; clear own1 grow1) | (at_builtin; refine wpList_append_own _ rfl _ _ 34 rfl z9.heap.size 63 i0 _ 13 48 Try.underlying34 hi hz0 hz1 hz2 rfl (by decide) _ (l.take k).length (flat (l.take k)) rfl (ownR_next O1.out (Below.al (Below.refl _ _) _)) ⟨y1.heap.size, 0, none⟩ 1 1 y.L rfl (Sn.L_len y) (fun j u hj => by rw [Addr.add_lit, Nat.zero_add, World.cell?_alloc_new, ← hj]; simp [Sn.L]) (fun u hu => by simp [Sn.L] at hu; rcases hu with rfl | rfl | rfl | rfl | rfl | rfl | rfl | rfl | rfl | rfl | rfl | rfl | rfl <;> rfl) (by unfold maxLen; omega) (by omega) (Nat.le_trans B1.out.size (by simp)) ?_; intro v2 y2 own2 grow2 _; obtain ⟨k2, O2, B2, NW2⟩ := GR2.out v1 y1 _ v2 y2 O1.out B1.out own2 grow2; clear own2 grow2) | (at_builtin; refine wpList_append_own _ rfl _ _ 34 rfl z9.heap.size 63 i0 _ 13 48 Try.underlying34 hi hz0 hz1 hz2 rfl (by decide) _ (l.take k ++ [y]).length (flat (l.take k ++ [y])) rfl O2.out ⟨g, o3, none⟩ (N - k) (cap - k) (flat (l.drop k)) rfl (by rw [flat_len, hd]) NW2.out (oneR _) (by unfold maxLen; omega) (by omega) B2.out.size ?_; intro v3 y3 own3 grow3 _; obtain ⟨a3, n3, c3, rfl, k3, f3, k4, f4, RES⟩ := GR3.out v2 y2 v3 y3 O2.out B2.out own3 grow3; clear own3 grow3))
          go_ret
          exact ⟨rfl, RES.out⟩
    · have gk : ¬ (k : Int) < (N : Int) := by omega
      have EKM : Hid (k = M) := by show k = M; omega
      have BX : Below z1.heap.size z1 wr.drew := Below.andThen bk DW
      clear Bw bk DW
      go_wp2_with fail
      refine wp_region_held_drew (S := fun u => u.cell? ⟨p, 0, none⟩ = some (.slice (some ⟨g, o, none⟩) N cap)) (by kernel_rfl) (CD.out _ (Below.refl _ _)) (fun hHeld => ?_)
      refine wpAnyH_take (i := 0) (v := (.int .i64 (k : Int))) rfl (by kernel_rfl) (by kernel_rfl) (by kernel_rfl) (fun _ _ _ h => h) (Or.inl ⟨by rfl, ?_⟩) (by assumption) ?_
      · intro w9 hSw
        try dsimp only at hSw
        go_simp
        all_goals try decide
        all_goals try assumption
      try simp only [Act.put, List.getElem_toArray, List.getElem_cons_succ, List.getElem_cons_zero, List.setIfInBounds_toArray, List.set_cons_zero, List.set_cons_succ]
      refine wpAnyH_take (i := 1) (v := (.pointer (some ⟨p, 0, none⟩))) rfl (by kernel_rfl) (by kernel_rfl) (by kernel_rfl) (fun _ _ _ h => h) (Or.inl ⟨by rfl, ?_⟩) (by assumption) ?_
      · intro w9 hSw
        try dsimp only at hSw
        go_simp
        all_goals try decide
        all_goals try assumption
      try simp only [Act.put, List.getElem_toArray, List.getElem_cons_succ, List.getElem_cons_zero, List.setIfInBounds_toArray, List.set_cons_zero, List.set_cons_succ]
      refine wpAnyH_take (i := 2) (v := (.pointer (some ⟨p, 0, none⟩))) rfl (by kernel_rfl) (by kernel_rfl) (by kernel_rfl) (fun _ _ _ h => h) (Or.inl ⟨by rfl, ?_⟩) (by assumption) ?_
      · intro w9 hSw
        try dsimp only at hSw
        go_simp
        all_goals try decide
        all_goals try assumption
      try simp only [Act.put, List.getElem_toArray, List.getElem_cons_succ, List.getElem_cons_zero, List.setIfInBounds_toArray, List.set_cons_zero, List.set_cons_succ]
      refine wpAnyH_take (i := 3) (v := (.pointer (some ⟨p, 0, none⟩))) rfl (by kernel_rfl) (by kernel_rfl) (by kernel_rfl) (fun _ _ _ h => h) (Or.inl ⟨by rfl, ?_⟩) (by assumption) ?_
      · intro w9 hSw
        try dsimp only at hSw
        go_simp
        all_goals try decide
        all_goals try assumption
      try simp only [Act.put, List.getElem_toArray, List.getElem_cons_succ, List.getElem_cons_zero, List.setIfInBounds_toArray, List.set_cons_zero, List.set_cons_succ]
      refine wpAnyH_take (i := 4) (v := (.slice (some ⟨g, o, none⟩) N cap)) rfl (by kernel_rfl) (by kernel_rfl) (by kernel_rfl) (fun _ _ _ h => h) (Or.inl ⟨by rfl, ?_⟩) (by assumption) ?_
      · intro w9 hSw
        try dsimp only at hSw
        go_simp
        all_goals try decide
        all_goals try assumption
      try simp only [Act.put, List.getElem_toArray, List.getElem_cons_succ, List.getElem_cons_zero, List.setIfInBounds_toArray, List.set_cons_zero, List.set_cons_succ]
      refine wpAnyH_take (i := 5) (v := (.int .i64 (N : Int))) rfl (by kernel_rfl) (by kernel_rfl) (by kernel_rfl) (fun _ _ _ h => h) (Or.inl ⟨by rfl, ?_⟩) (by assumption) ?_
      · intro w9 hSw
        try dsimp only at hSw
        go_simp
        all_goals try decide
        all_goals try assumption
      try simp only [Act.put, List.getElem_toArray, List.getElem_cons_succ, List.getElem_cons_zero, List.setIfInBounds_toArray, List.set_cons_zero, List.set_cons_succ]
      refine wpAnyH_take (i := 6) (v := (.bool false)) rfl (by kernel_rfl) (by kernel_rfl) (by kernel_rfl) (fun _ _ _ h => h) (Or.inl ⟨by rfl, ?_⟩) (by assumption) ?_
      · intro w9 hSw
        try dsimp only at hSw
        go_simp
        all_goals try decide
        all_goals try assumption
      try simp only [Act.put, List.getElem_toArray, List.getElem_cons_succ, List.getElem_cons_zero, List.setIfInBounds_toArray, List.set_cons_zero, List.set_cons_succ]
      refine wpAnyH_take (i := 7) (v := (.bool false)) rfl (by kernel_rfl) (by kernel_rfl) (by kernel_rfl) (fun _ _ _ h => h) (Or.inl ⟨by rfl, ?_⟩) (by assumption) ?_
      · intro w9 hSw
        try dsimp only at hSw
        go_simp
        all_goals try decide
        all_goals try assumption
      try simp only [Act.put, List.getElem_toArray, List.getElem_cons_succ, List.getElem_cons_zero, List.setIfInBounds_toArray, List.set_cons_zero, List.set_cons_succ]
      refine wpAnyH_take (i := 8) (v := undef) rfl (by kernel_rfl) (by kernel_rfl) (by kernel_rfl) (fun _ _ _ h => h) (Or.inr ⟨by rfl, rfl⟩) (by assumption) ?_
      try simp only [Act.put, List.getElem_toArray, List.getElem_cons_succ, List.getElem_cons_zero, List.setIfInBounds_toArray, List.set_cons_zero, List.set_cons_succ]
      refine wpAnyH_take (i := 9) (v := undef) rfl (by kernel_rfl) (by kernel_rfl) (by kernel_rfl) (fun _ _ _ h => h) (Or.inr ⟨by rfl, rfl⟩) (by assumption) ?_
      try simp only [Act.put, List.getElem_toArray, List.getElem_cons_succ, List.getElem_cons_zero, List.setIfInBounds_toArray, List.set_cons_zero, List.set_cons_succ]
      refine wpAnyH_take (i := 10) (v := undef) rfl (by kernel_rfl) (by kernel_rfl) (by kernel_rfl) (fun _ _ _ h => h) (Or.inr ⟨by rfl, rfl⟩) (by assumption) ?_
      try simp only [Act.put, List.getElem_toArray, List.getElem_cons_succ, List.getElem_cons_zero, List.setIfInBounds_toArray, List.set_cons_zero, List.set_cons_succ]
      refine wpAnyH_take (i := 11) (v := undef) rfl (by kernel_rfl) (by kernel_rfl) (by kernel_rfl) (fun _ _ _ h => h) (Or.inr ⟨by rfl, rfl⟩) (by assumption) ?_
      try simp only [Act.put, List.getElem_toArray, List.getElem_cons_succ, List.getElem_cons_zero, List.setIfInBounds_toArray, List.set_cons_zero, List.set_cons_succ]
      refine wpAnyH_take (i := 12) (v := undef) rfl (by kernel_rfl) (by kernel_rfl) (by kernel_rfl) (fun _ _ _ h => h) (Or.inr ⟨by rfl, rfl⟩) (by assumption) ?_
      try simp only [Act.put, List.getElem_toArray, List.getElem_cons_succ, List.getElem_cons_zero, List.setIfInBounds_toArray, List.set_cons_zero, List.set_cons_succ]
      refine wpAnyH_take (i := 13) (v := undef) rfl (by kernel_rfl) (by kernel_rfl) (by kernel_rfl) (fun _ _ _ h => h) (Or.inr ⟨by rfl, rfl⟩) (by assumption) ?_
      try simp only [Act.put, List.getElem_toArray, List.getElem_cons_succ, List.getElem_cons_zero, List.setIfInBounds_toArray, List.set_cons_zero, List.set_cons_succ]
      refine wpAnyH_take (i := 14) (v := undef) rfl (by kernel_rfl) (by kernel_rfl) (by kernel_rfl) (fun _ _ _ h => h) (Or.inr ⟨by rfl, rfl⟩) (by assumption) ?_
      try simp only [Act.put, List.getElem_toArray, List.getElem_cons_succ, List.getElem_cons_zero, List.setIfInBounds_toArray, List.set_cons_zero, List.set_cons_succ]
      refine wpAnyH_take (i := 15) (v := undef) rfl (by kernel_rfl) (by kernel_rfl) (by kernel_rfl) (fun _ _ _ h => h) (Or.inr ⟨by rfl, rfl⟩) (by assumption) ?_
      try simp only [Act.put, List.getElem_toArray, List.getElem_cons_succ, List.getElem_cons_zero, List.setIfInBounds_toArray, List.set_cons_zero, List.set_cons_succ]
      refine wpAnyH_take (i := 16) (v := undef) rfl (by kernel_rfl) (by kernel_rfl) (by kernel_rfl) (fun _ _ _ h => h) (Or.inr ⟨by rfl, rfl⟩) (by assumption) ?_
      try simp only [Act.put, List.getElem_toArray, List.getElem_cons_succ, List.getElem_cons_zero, List.setIfInBounds_toArray, List.set_cons_zero, List.set_cons_succ]
      refine wpAnyH_take (i := 17) (v := (.bool false)) rfl (by kernel_rfl) (by kernel_rfl) (by kernel_rfl) (fun _ _ _ h => h) (Or.inl ⟨by rfl, ?_⟩) (by assumption) ?_
      · intro w9 hSw
        try dsimp only at hSw
        go_simp
        all_goals try decide
        all_goals try assumption
      try simp only [Act.put, List.getElem_toArray, List.getElem_cons_succ, List.getElem_cons_zero, List.setIfInBounds_toArray, List.set_cons_zero, List.set_cons_succ]
      refine wpAnyH_done (by kernel_rfl) ?_ _
      clear CD
      have ekM := EKM.out
      subst ekM
      have BW : Below w.heap.size w wr.drew := Below.andThen HBS.out BX
      have k0 := (HN.out wr.drew BW).c0
      have ht : (l.take k).length = k := by rw [List.length_take, ← hN.out]; omega
      have hd : (l.drop k).length = N - k := by rw [List.length_drop, ← hN.out]
      obtain ⟨o3, ho3⟩ : ∃ o3, Hid (o3 = if cap = k then o else o + k * 13) := ⟨_, rfl⟩
      have SL1 : ∀ w, (Instr.slice 34 (.slice (some ⟨g, o, none⟩) N cap) none (some (.int .i64 (k : Int))) none).run Try.prog w = .ok (.slice (some ⟨g, o, none⟩) k cap) w := fun w => by
        have q1 : (k : Int) ≤ (cap : Int) := by omega
        have q2 : ¬ (cap : Int) < (k : Int) := by omega
        have q3 : (0 : Int) ≤ (k : Int) := by omega
        clear k0 HN HC HBS HSB 
        go_simp
        all_goals try omega
      have SL2 : ∀ w, (Instr.slice 34 (.slice (some ⟨g, o, none⟩) N cap) (some (.int .i64 (k : Int))) none none).run Try.prog w = .ok (.slice (some ⟨g, o3, none⟩) (N - k) (cap - k)) w := fun w => by
        have q1 : (k : Int) ≤ (N : Int) := by omega
        have q2 : ¬ (N : Int) < (k : Int) := by omega
        have q3 : (0 : Int) ≤ (k : Int) := by omega
        rw [ho3.out]
        clear k0 HN HC HBS HSB SL1
        by_cases c9 : cap = k
        · rw [if_pos c9]
          go_simp
          all_goals try omega
        · rw [if_neg c9]
          go_simp
          all_goals try omega
      have CW1 : Hid (∀ x, Below wr.drew.heap.size wr.drew x → CellsR x g o (l.take k)) := fun x hx => fun i x' hi' => (HC.out x (Below.andThen BW hx)) i x' (by rw [List.getElem?_take] at hi'; split at hi'; exact hi'; cases hi')
      have CW2 : Hid (∀ x, Below wr.drew.heap.size wr.drew x → CellsR x g o3 (l.drop k)) := fun x hx => fun i x' hi' => by
        rw [List.getElem?_drop] at hi'
        have hlt := (List.getElem?_eq_some_iff.1 hi').1
        rw [ho3.out, if_neg (by rw [← hN.out] at hlt; omega)]
        intro j u hu
        have := (HC.out x (Below.andThen BW hx)) (k + i) x' hi' j u hu
        rw [show o + k * 13 + i * 13 + j = o + (k + i) * 13 + j from by omega]
        exact this
      have BW0 : Hid (Below w.heap.size w wr.drew) := BW
      have SBW : wr.drew.heap[sb]? = some (.cells y.A 63 (0, 0)) := (BX.block sb (lt_of_heap HSB.out)).trans HSB.out
      have hsbl : sb < wr.drew.heap.size := lt_of_heap SBW
      have BAS : Hid (w.heap.size ≤ wr.drew.heap.size) := BW.size
      have NW1 : Hid _ := fun j u hj => cellsR_flat (CW1.out wr.drew (Below.refl _ _)) j u hj
      have GR1 : Hid (∀ v1 y1, y1.ownsRow wr.drew.heap.size 63 13 v1 (0 + k) ([] ++ flat (l.take k)) → wr.drew.grownBy y1 (Value.ownBlock (.slice none 0 0)) → y1.cell? ⟨sb, 0, none⟩ = some (.int .i64 y.nd) ∧ y1.cell? ⟨sb, 1, none⟩ = some (.int .u16 y.i) ∧ y1.cell? ⟨sb, 2, none⟩ = some (.int .i64 y.n) ∧ y1.cell? ⟨sb, 3, none⟩ = some (.int .u8 y.d0) ∧ y1.cell? ⟨sb, 4, none⟩ = some (.int .u8 y.d1) ∧ y1.cell? ⟨sb, 5, none⟩ = some (.int .u8 y.d2) ∧ y1.cell? ⟨sb, 6, none⟩ = some (.int .u8 y.d3) ∧ y1.cell? ⟨sb, 7, none⟩ = some (.int .u8 y.d4) ∧ y1.cell? ⟨sb, 8, none⟩ = some (.int .u8 y.d5) ∧ y1.cell? ⟨sb, 9, none⟩ = some (.int .u8 y.d6) ∧ y1.cell? ⟨sb, 10, none⟩ = some (.int .u8 y.d7) ∧ y1.cell? ⟨sb, 11, none⟩ = some (.bool y.r) ∧ y1.cell? ⟨sb, 12, none⟩ = some (.int .i64 y.nm) ∧ Hid (OwnR y1 wr.drew.heap.size v1 (l.take k)) ∧ Hid (Below wr.drew.heap.size wr.drew y1)) := fun v1 y1 own1 grow1 => by
        have O1 : OwnR y1 wr.drew.heap.size v1 (l.take k) := by
          show y1.ownsRow _ 63 13 _ (l.take k).length _
          rw [ht]
          rw [Nat.zero_add, List.nil_append] at own1
          exact own1
        have b1 : Below wr.drew.heap.size wr.drew y1 := (Below.refl _ _).grown grow1 (Nat.le_refl _) (fun j hj => by simp [Value.ownBlock] at hj)
        have hs1 : y1.heap[sb]? = some (.cells y.A 63 (0, 0)) := (b1.block sb hsbl).trans SBW
        exact ⟨by rw [cell_of_row y1 _ 0 _ _ _ hs1]; rfl, by rw [cell_of_row y1 _ 1 _ _ _ hs1]; rfl, by rw [cell_of_row y1 _ 2 _ _ _ hs1]; rfl, by rw [cell_of_row y1 _ 3 _ _ _ hs1]; rfl, by rw [cell_of_row y1 _ 4 _ _ _ hs1]; rfl, by rw [cell_of_row y1 _ 5 _ _ _ hs1]; rfl, by rw [cell_of_row y1 _ 6 _ _ _ hs1]; rfl, by rw [cell_of_row y1 _ 7 _ _ _ hs1]; rfl, by rw [cell_of_row y1 _ 8 _ _ _ hs1]; rfl, by rw [cell_of_row y1 _ 9 _ _ _ hs1]; rfl, by rw [cell_of_row y1 _ 10 _ _ _ hs1]; rfl, by rw [cell_of_row y1 _ 11 _ _ _ hs1]; rfl, by rw [cell_of_row y1 _ 12 _ _ _ hs1]; rfl, O1, b1⟩
      have GR2 : Hid (∀ v1 y1 b v2 y2, OwnR y1 wr.drew.heap.size v1 (l.take k) → Below wr.drew.heap.size wr.drew y1 → y2.ownsRow wr.drew.heap.size 63 13 v2 ((l.take k).length + 1) (flat (l.take k) ++ y.L) → (World.alloc y1 b).grownBy y2 v1.ownBlock → y2.cell? ⟨p, 0, none⟩ = some (.slice (some ⟨g, o, none⟩) N cap) ∧ Hid (OwnR y2 wr.drew.heap.size v2 (l.take k ++ [y])) ∧ Hid (Below wr.drew.heap.size wr.drew y2) ∧ Hid (∀ j u, (flat (l.drop k))[j]? = some u → y2.cell? ((⟨g, o3, none⟩ : Addr).add j) = some u)) := fun v1 y1 b v2 y2 O1 b1 own2 grow2 => by
        have O2 : OwnR y2 wr.drew.heap.size v2 (l.take k ++ [y]) := by
          show y2.ownsRow _ 63 13 _ (l.take k ++ [y]).length (flat (l.take k ++ [y]))
          rw [flat_app, flat_one, List.length_append]
          exact own2
        have b2 : Below wr.drew.heap.size wr.drew y2 := (Below.al b1 _).grown grow2 (Nat.le_trans b1.size (by simp)) (fun j hj => (O1.lt j hj).1)
        exact ⟨((HN.out wr.drew BW0.out).next b2).c0, O2, b2, fun j u hj => cellsR_flat (CW2.out y2 b2) j u hj⟩
      have hins : insN y l = l.take k ++ [y] ++ l.drop k := by unfold insN; rw [← hM.out]
      have GR3 : Hid (∀ v2 y2 v3 y3, OwnR y2 wr.drew.heap.size v2 (l.take k ++ [y]) → Below wr.drew.heap.size wr.drew y2 → y3.ownsRow wr.drew.heap.size 63 13 v3 ((l.take k ++ [y]).length + (N - k)) (flat (l.take k ++ [y]) ++ flat (l.drop k)) → y2.grownBy y3 v2.ownBlock → ∃ a3 n3 c3, v3 = .slice a3 n3 c3 ∧ y3.cell? ⟨p, 0, none⟩ = some (.slice (some ⟨g, o, none⟩) N cap) ∧ y3.frozen? ⟨p, 0, none⟩ = false ∧ (y3.setCell ⟨p, 0, none⟩ v3).cell? ⟨p, 1, none⟩ = some (.int .i64 y.nm) ∧ (y3.setCell ⟨p, 0, none⟩ v3).frozen? ⟨p, 1, none⟩ = false ∧ Hid ((∃ v', IsD ((y3.setCell ⟨p, 0, none⟩ v3).setCell ⟨p, 1, none⟩ (.int .i64 (y.nm + 1))) p v' (insN y l) (y.nm + 1)) ∧ Kp [p] w ((y3.setCell ⟨p, 0, none⟩ v3).setCell ⟨p, 1, none⟩ (.int .i64 (y.nm + 1))))) := fun v2 y2 v3 y3 O2 b2 own3 grow3 => by
        have O3 : OwnR y3 wr.drew.heap.size v3 (insN y l) := by
          rw [hins]
          show y3.ownsRow _ 63 13 _ (l.take k ++ [y] ++ l.drop k).length (flat (l.take k ++ [y] ++ l.drop k))
          rw [flat_app (l.take k ++ [y]), show (l.take k ++ [y] ++ l.drop k).length = (l.take k ++ [y]).length + (N - k) from by rw [List.length_append, hd]]
          exact own3
        have b3 : Below wr.drew.heap.size wr.drew y3 := b2.grown grow3 b2.size (fun j hj => (O2.lt j hj).1)
        have D3 := (HN.out wr.drew BW0.out).next b3
        have D4 : IsD (y3.setCell ⟨p, 0, none⟩ v3) p v3 (insN y l) y.nm := ⟨by rw [heap_setCell_same y3 p 0 _ _ _ D3.head]; rfl, isR_set D3.head (isR_own O3)⟩
        obtain ⟨a3, c3, e3⟩ := ownR_form O3
        exact ⟨a3, _, c3, e3, D3.c0, D3.fz 0, D4.c1, D4.fz 1, ⟨_, D4.set1 _⟩, ((Kp.of (Below.andThen BW0.out b3)).set _ _ (.inl (by simp))).set _ _ (.inl (by simp))⟩
      have lt2 : (l.take k ++ [y]).length = k + 1 := by rw [List.length_append, ht]; rfl
      clear BW BX HN HC HSB HBS CW1 CW2 SBW hins
      go_wp2_with (first | (at_builtin; refine wpList_append_own _ rfl _ _ 34 rfl wr.drew.heap.size 63 i0 _ 13 48 Try.underlying34 hi hz0 hz1 hz2 rfl (by decide) (.slice none 0 0) 0 [] rfl (World.ownsRow_nil _ _ _ _) ⟨g, o, none⟩ k cap (flat (l.take k)) rfl (by rw [flat_len, ht]) NW1.out (oneR _) (by unfold maxLen; omega) (by omega) (Nat.le_refl _) ?_; intro v1 y1 own1 grow1 _; obtain ⟨s0, s1, s2, s3, s4, s5, s6, s7, s8, s9, s10, s11, s12, O1, B1⟩ := GR1.out v1 y1 own1 grow1; clear own1 grow1) | (at_builtin; refine wpList_append_own _ rfl _ _ 34 rfl wr.drew.heap.size 63 i0 _ 13 48 Try.underlying34 hi hz0 hz1 hz2 rfl (by decide) _ (l.take k).length (flat (l.take k)) rfl (ownR_next O1.out (Below.al (Below.refl _ _) _)) ⟨y1.heap.size, 0, none⟩ 1 1 y.L rfl (Sn.L_len y) (fun j u hj => by rw [Addr.add_lit, Nat.zero_add, World.cell?_alloc_new, ← hj]; simp [Sn.L]) (fun u hu => by simp [Sn.L] at hu; rcases hu with rfl | rfl | rfl | rfl | rfl | rfl | rfl | rfl | rfl | rfl | rfl | rfl | rfl <;> rfl) (by unfold maxLen; omega) (by omega) (Nat.le_trans B1.out.size (by simp)) ?_; intro v2 y2 own2 grow2 _; obtain ⟨k2, O2, B2, NW2⟩ := GR2.out v1 y1 _ v2 y2 O1.out B1.out own2 grow2; clear own2 grow2) | (at_builtin; refine wpList_append_own _ rfl _ _ 34 rfl wr.drew.heap.size 63 i0 _ 13 48 Try.underlying34 hi hz0 hz1 hz2 rfl (by decide) _ (l.take k ++ [y]).length (flat (l.take k ++ [y])) rfl O2.out ⟨g, o3, none⟩ (N - k) (cap - k) (flat (l.drop k)) rfl (by rw [flat_len, hd]) NW2.out (oneR _) (by unfold maxLen; omega) (by omega) B2.out.size ?_; intro v3 y3 own3 grow3 _; obtain ⟨a3, n3, c3, rfl, k3, f3, k4, f4, RES⟩ := GR3.out v2 y2 v3 y3 O2.out B2.out own3 grow3; clear own3 grow3))
      go_ret
      exact ⟨rfl, RES.out⟩
#print axioms rsend_some
end Go.Proofs.Ytndlpjfofjikeaa
