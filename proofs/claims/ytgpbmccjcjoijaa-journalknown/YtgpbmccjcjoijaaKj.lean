/-
  The document's Copy and Opened.
-/
import Derived.Test.YtgpbmccjcjoijaaKf
namespace Go.Proofs.Ytgpbmccjcjoijaa
open Go.RowKit

/-- Groups that are being copied: so many are. -/
def part16 (l : List Gp) (i : Nat) : List Gp := l.take i ++ all0.drop i
theorem part16_len (l : List Gp) (h : l.length = 16) (i : Nat) (hi : i ≤ 16) : (part16 l i).length = 16 := by simp [part16, all0, h]; omega
theorem part16_next (l : List Gp) (h : l.length = 16) (i : Nat) (hi : i < 16) (g : Gp) (hg : l[i]? = some g) : (part16 l i).set i g = part16 l (i + 1) := by
  have e : (l.take i).length = i := by simp; omega
  unfold part16
  rw [List.set_append_right _ _ (by omega), e, Nat.sub_self]
  have hd : all0.drop i = gp0 :: all0.drop (i + 1) := by
    have := List.drop_eq_getElem_cons (l := all0) (i := i) (by simp [all0]; omega)
    rw [this]; congr 1; exact List.getElem_replicate _
  rw [hd, List.set_cons_zero, List.take_add_one, hg]
  simp
theorem part16_skip (l : List Gp) (i : Nat) (hi : i < 16) (hg : l[i]? = some gp0) : part16 l i = part16 l (i + 1) := by
  have hd : all0.drop i = gp0 :: all0.drop (i + 1) := by
    have := List.drop_eq_getElem_cons (l := all0) (i := i) (by simp [all0]; omega)
    rw [this]; congr 1; exact List.getElem_replicate _
  unfold part16
  rw [hd, List.take_add_one, hg]
  simp
theorem part16_all (l : List Gp) (h : l.length = 16) : part16 l 16 = l := by
  unfold part16
  rw [List.take_of_length_le (by omega), List.drop_of_length_le (by simp [all0])]
  simp

set_option linter.unusedSimpArgs false in
set_option maxHeartbeats 8000000 in
set_option maxRecDepth 100000 in
theorem rcopy_any {w : World} {d db count : Nat} {all : List Gp} (hM : IsM w d db count all) :
    Calls Try.prog 44 #[.pointer (some ⟨d, 0, none⟩)] w fun e w' => e = .returned (.pointer (some ⟨w.heap.size + 1, 0, none⟩)) ∧ IsM w' (w.heap.size + 1) w.heap.size count all ∧ Kp [] w w' := by
  have HM : Hid (IsM w d db count all) := hM
  have h16 := hM.len
  have c1 := hM.c1
  have hdl : d < w.heap.size := lt_of_heap hM.top
  have hbl : db < w.heap.size := lt_of_heap hM.row
  have NW := rnew_any count w
  obtain ⟨L, hL⟩ : ∃ L, Hid (all = L) := ⟨_, rfl⟩
  have hL16 : L.length = 16 := by rw [← hL.out]; exact h16
  rw [hL.out]
  clear hM
  go_enter Try.func44, Try.ntmps44
  go_wp2_with fail
  with_reducible refine NW.mono ?_
  rintro e z ⟨rfl, hMz, hKz⟩
  clear NW
  have HMz : Hid (IsM z (w.heap.size + 1) w.heap.size count all0) := hMz
  have HKz : Hid (Kp [] w z) := hKz
  clear hMz hKz
  go_wp2_with fail
  go_loopw [4] (fun v wr => ∃ i : Nat, i ≤ 16 ∧ v = .int .i64 i ∧ IsM wr (w.heap.size + 1) w.heap.size count (part16 L i) ∧ Kp [] w wr) (fun v _ => 16 - (intOf v).toNat)
  case atStart => exact ⟨0, by omega, rfl, HMz.out, HKz.out⟩
  case round =>
    obtain ⟨i, hi, rfl, hm, hk⟩ := hrel
    have hMr : IsM wr d db count all := HM.out.kp hk (by simp) (by simp)
    have d0 := hMr.c0
    have e0 := hm.c0
    have Hm : Hid (IsM wr (w.heap.size + 1) w.heap.size count (part16 L i)) := hm
    have Hk : Hid (Kp [] w wr) := hk
    have HMr : Hid (IsM wr d db count all) := hMr
    clear hm hk hMr
    by_cases hlt : i < 16
    · have g1 : (i : Int) < 16 := by omega
      have g2 : (0 : Int) ≤ i := by omega
      have hai : all[i]? = some (all[i]'(by omega)) := List.getElem?_eq_getElem _
      obtain ⟨x0, x1, x2⟩ := HMr.out.grp i _ hai
      have HLi : Hid (L[i]? = some (all[i]'(by omega))) := by show L[i]? = _; rw [← hL.out]; exact hai
      generalize (all[i]'(by omega)) = g at *
      obtain ⟨th, mk, bs⟩ := g
      dsimp only at x0 x1 x2
      obtain ⟨st, hst⟩ : ∃ st, Hid (strOfNums bs = st) := ⟨_, rfl⟩
      rw [hst.out] at x1
      clear hai
      have MD : IsM wr.drew (w.heap.size + 1) w.heap.size count (part16 L i) := Hm.out.kp (S := []) ((Kp.refl _ _).drew) (by simp) (by simp)
      obtain ⟨s1, M1, K1⟩ := mstore_group MD i hlt ⟨th, mk, bs⟩
      have s1 : (storeVar 81 ⟨w.heap.size, i * 3, none⟩ (.agg #[.bool th, .string st, .bool mk])).run Try.prog wr.drew = .ok () (wr.drew.setRow w.heap.size (mflat ((part16 L i).set i ⟨th, mk, bs⟩)).toArray) := by rw [← hst.out]; exact s1
      rw [part16_next L hL16 i hlt _ HLi.out] at s1 M1 K1
      have nd : d ∉ [w.heap.size] := by simp; omega
      have nb : db ∉ [w.heap.size] := by simp; omega
      have nk : w.heap.size + 1 ∉ [w.heap.size] := by simp
      have HN : Hid (∃ i' : Nat, i' ≤ 16 ∧ Value.int .i64 ((i : Int) + 1) = .int .i64 i' ∧ IsM (wr.drew.setRow w.heap.size (mflat (part16 L (i + 1))).toArray) (w.heap.size + 1) w.heap.size count (part16 L i') ∧ Kp [] w (wr.drew.setRow w.heap.size (mflat (part16 L (i + 1))).toArray)) := ⟨i + 1, by omega, by go_num, M1, Hk.out.drew.fresh K1 (fun q hq => by simp at hq; subst hq; exact .inr (Nat.le_refl _))⟩
      have z0 := K1.cell (show wr.drew.cell? ⟨d, 0, none⟩ = _ from d0) nd
      have z1 := K1.cell (show wr.drew.cell? ⟨w.heap.size + 1, 0, none⟩ = _ from e0) nk
      have z2 := K1.cell (show wr.drew.cell? ⟨db, i * 3, none⟩ = _ from x0) nb
      have z3 := K1.cell (show wr.drew.cell? ⟨db, i * 3 + 1, none⟩ = _ from x1) nb
      have z4 := K1.cell (show wr.drew.cell? ⟨db, i * 3 + 2, none⟩ = _ from x2) nb
      obtain ⟨Y, hY⟩ : ∃ Y, Hid (wr.drew.setRow w.heap.size (mflat (part16 L (i + 1))).toArray = Y) := ⟨_, rfl⟩
      rw [hY.out] at s1 HN z0 z1 z2 z3 z4
      clear MD M1 K1
      go_wp2_with fail
      refine wp_region_held_drew (S := fun x => x.cell? ⟨d, 0, none⟩ = some (.slice (some ⟨db, 0, none⟩) 16 16) ∧ x.cell? ⟨w.heap.size + 1, 0, none⟩ = some (.slice (some ⟨w.heap.size, 0, none⟩) 16 16) ∧ x.cell? ⟨db, i * 3, none⟩ = some (.bool th) ∧ x.cell? ⟨db, i * 3 + 1, none⟩ = some (.string st) ∧ x.cell? ⟨db, i * 3 + 2, none⟩ = some (.bool mk)) (by kernel_rfl) (⟨d0, e0, x0, x1, x2⟩) (fun hHeld => ?_)
      refine wpAnyH_take (i := 0) (v := (.pointer (some ⟨w.heap.size + 1, 0, none⟩))) rfl (by kernel_rfl) (by kernel_rfl) (by kernel_rfl) (fun _ _ _ h => h) (Or.inl ⟨by rfl, ?_⟩) (by assumption) ?_
      · intro w9 hSw
        try dsimp only at hSw
        go_simp
        all_goals try decide
        all_goals try assumption
        all_goals try omega
      try simp only [Act.put, List.getElem_toArray, List.getElem_cons_succ, List.getElem_cons_zero, List.setIfInBounds_toArray, List.set_cons_zero, List.set_cons_succ]
      refine wpAnyH_take (i := 1) (v := (.pointer (some ⟨w.heap.size + 1, 0, none⟩))) rfl (by kernel_rfl) (by kernel_rfl) (by kernel_rfl) (fun _ _ _ h => h) (Or.inl ⟨by rfl, ?_⟩) (by assumption) ?_
      · intro w9 hSw
        try dsimp only at hSw
        go_simp
        all_goals try decide
        all_goals try assumption
        all_goals try omega
      try simp only [Act.put, List.getElem_toArray, List.getElem_cons_succ, List.getElem_cons_zero, List.setIfInBounds_toArray, List.set_cons_zero, List.set_cons_succ]
      refine wpAnyH_take (i := 2) (v := (.pointer (some ⟨w.heap.size + 1, 0, none⟩))) rfl (by kernel_rfl) (by kernel_rfl) (by kernel_rfl) (fun _ _ _ h => h) (Or.inl ⟨by rfl, ?_⟩) (by assumption) ?_
      · intro w9 hSw
        try dsimp only at hSw
        go_simp
        all_goals try decide
        all_goals try assumption
        all_goals try omega
      try simp only [Act.put, List.getElem_toArray, List.getElem_cons_succ, List.getElem_cons_zero, List.setIfInBounds_toArray, List.set_cons_zero, List.set_cons_succ]
      refine wpAnyH_take (i := 3) (v := (.slice (some ⟨w.heap.size, 0, none⟩) 16 16)) rfl (by kernel_rfl) (by kernel_rfl) (by kernel_rfl) (fun _ _ _ h => h) (Or.inl ⟨by rfl, ?_⟩) (by assumption) ?_
      · intro w9 hSw
        try dsimp only at hSw
        obtain ⟨hS0, hS1, hS2, hS3, hS4⟩ := hSw
        go_simp
      try simp only [Act.put, List.getElem_toArray, List.getElem_cons_succ, List.getElem_cons_zero, List.setIfInBounds_toArray, List.set_cons_zero, List.set_cons_succ]
      refine wpAnyH_take (i := 4) (v := (.int .i64 (i : Int))) rfl (by kernel_rfl) (by kernel_rfl) (by kernel_rfl) (fun _ _ _ h => h) (Or.inl ⟨by rfl, ?_⟩) (by assumption) ?_
      · intro w9 hSw
        try dsimp only at hSw
        go_simp
        all_goals try decide
        all_goals try assumption
        all_goals try omega
      try simp only [Act.put, List.getElem_toArray, List.getElem_cons_succ, List.getElem_cons_zero, List.setIfInBounds_toArray, List.set_cons_zero, List.set_cons_succ]
      refine wpAnyH_take (i := 5) (v := (.pointer (some ⟨d, 0, none⟩))) rfl (by kernel_rfl) (by kernel_rfl) (by kernel_rfl) (fun _ _ _ h => h) (Or.inl ⟨by rfl, ?_⟩) (by assumption) ?_
      · intro w9 hSw
        try dsimp only at hSw
        go_simp
        all_goals try decide
        all_goals try assumption
        all_goals try omega
      try simp only [Act.put, List.getElem_toArray, List.getElem_cons_succ, List.getElem_cons_zero, List.setIfInBounds_toArray, List.set_cons_zero, List.set_cons_succ]
      refine wpAnyH_take (i := 6) (v := (.pointer (some ⟨d, 0, none⟩))) rfl (by kernel_rfl) (by kernel_rfl) (by kernel_rfl) (fun _ _ _ h => h) (Or.inl ⟨by rfl, ?_⟩) (by assumption) ?_
      · intro w9 hSw
        try dsimp only at hSw
        go_simp
        all_goals try decide
        all_goals try assumption
        all_goals try omega
      try simp only [Act.put, List.getElem_toArray, List.getElem_cons_succ, List.getElem_cons_zero, List.setIfInBounds_toArray, List.set_cons_zero, List.set_cons_succ]
      refine wpAnyH_take (i := 7) (v := (.pointer (some ⟨d, 0, none⟩))) rfl (by kernel_rfl) (by kernel_rfl) (by kernel_rfl) (fun _ _ _ h => h) (Or.inl ⟨by rfl, ?_⟩) (by assumption) ?_
      · intro w9 hSw
        try dsimp only at hSw
        go_simp
        all_goals try decide
        all_goals try assumption
        all_goals try omega
      try simp only [Act.put, List.getElem_toArray, List.getElem_cons_succ, List.getElem_cons_zero, List.setIfInBounds_toArray, List.set_cons_zero, List.set_cons_succ]
      refine wpAnyH_take (i := 8) (v := (.slice (some ⟨db, 0, none⟩) 16 16)) rfl (by kernel_rfl) (by kernel_rfl) (by kernel_rfl) (fun _ _ _ h => h) (Or.inl ⟨by rfl, ?_⟩) (by assumption) ?_
      · intro w9 hSw
        try dsimp only at hSw
        obtain ⟨hS0, hS1, hS2, hS3, hS4⟩ := hSw
        go_simp
      try simp only [Act.put, List.getElem_toArray, List.getElem_cons_succ, List.getElem_cons_zero, List.setIfInBounds_toArray, List.set_cons_zero, List.set_cons_succ]
      refine wpAnyH_take (i := 9) (v := (.int .i64 (i : Int))) rfl (by kernel_rfl) (by kernel_rfl) (by kernel_rfl) (fun _ _ _ h => h) (Or.inl ⟨by rfl, ?_⟩) (by assumption) ?_
      · intro w9 hSw
        try dsimp only at hSw
        go_simp
        all_goals try decide
        all_goals try assumption
        all_goals try omega
      try simp only [Act.put, List.getElem_toArray, List.getElem_cons_succ, List.getElem_cons_zero, List.setIfInBounds_toArray, List.set_cons_zero, List.set_cons_succ]
      refine wpAnyH_take (i := 10) (v := (.pointer (some ⟨db, i * 3, none⟩))) rfl (by kernel_rfl) (by kernel_rfl) (by kernel_rfl) (fun _ _ _ h => h) (Or.inl ⟨by rfl, ?_⟩) (by assumption) ?_
      · intro w9 hSw
        try dsimp only at hSw
        go_simp
        all_goals try decide
        all_goals try assumption
        all_goals try omega
      try simp only [Act.put, List.getElem_toArray, List.getElem_cons_succ, List.getElem_cons_zero, List.setIfInBounds_toArray, List.set_cons_zero, List.set_cons_succ]
      refine wpAnyH_take (i := 11) (v := (.agg #[.bool th, .string st, .bool mk])) rfl (by kernel_rfl) (by kernel_rfl) (by kernel_rfl) (fun _ _ _ h => h) (Or.inl ⟨by rfl, ?_⟩) (by assumption) ?_
      · intro w9 hSw
        try dsimp only at hSw
        obtain ⟨hS0, hS1, hS2, hS3, hS4⟩ := hSw
        go_simp
      try simp only [Act.put, List.getElem_toArray, List.getElem_cons_succ, List.getElem_cons_zero, List.setIfInBounds_toArray, List.set_cons_zero, List.set_cons_succ]
      refine wpAnyH_take (i := 12) (v := (.pointer (some ⟨w.heap.size, i * 3, none⟩))) rfl (by kernel_rfl) (by kernel_rfl) (by kernel_rfl) (fun _ _ _ h => h) (Or.inl ⟨by rfl, ?_⟩) (by assumption) ?_
      · intro w9 hSw
        try dsimp only at hSw
        go_simp
        all_goals try decide
        all_goals try assumption
        all_goals try omega
      try simp only [Act.put, List.getElem_toArray, List.getElem_cons_succ, List.getElem_cons_zero, List.setIfInBounds_toArray, List.set_cons_zero, List.set_cons_succ]
      refine wpAnyH_ready (rs := [13]) (by kernel_rfl) (by simp) ?_
      refine AllReadyH.cons rfl (fun K' hK => ?_) AllReadyH.nil
      rw [if_pos (by rfl)]
      simp only [List.getElem_toArray, List.getElem_cons_succ, List.getElem_cons_zero]
      refine wp_store_by 81 (.tmp 31) (.tmp 30) rfl _ _ rfl rfl s1 ?_
      refine hK.out _ _ (⟨z0, z1, z2, z3, z4⟩) (fun hHeld => ?_)
      clear hK K'
      try simp only [Act.put, List.getElem_toArray, List.getElem_cons_succ, List.getElem_cons_zero, List.setIfInBounds_toArray, List.set_cons_zero, List.set_cons_succ]
      refine wpAnyH_done (by kernel_rfl) ?_ _
      clear s1 d0 e0 x0 x1 x2 z0 z1 z2 z3 z4
      go_wp2_with fail
      exact ⟨HN.out, by simp [intOf]; omega⟩
    · obtain rfl : i = 16 := by omega
      have hfin : Hid (IsM wr (w.heap.size + 1) w.heap.size count L) := by have := Hm.out; rw [part16_all L hL16] at this; exact this
      go_wp2_with fail
      go_ret
      exact ⟨rfl, hfin.out, Hk.out⟩

set_option linter.unusedSimpArgs false in
set_option maxHeartbeats 8000000 in
set_option maxRecDepth 100000 in
theorem ropened_any {w : World} {d db count : Nat} {all : List Gp} (hM : IsM w d db count all) :
    Calls Try.prog 15 #[.pointer (some ⟨d, 0, none⟩)] w fun e w' => e = .returned (.pointer (some ⟨w.heap.size + 1, 0, none⟩)) ∧ IsM w' (w.heap.size + 1) w.heap.size count (dropG all) ∧ Kp [] w w' := by
  have HM : Hid (IsM w d db count all) := hM
  have h16 := hM.len
  have c1 := hM.c1
  have hdl : d < w.heap.size := lt_of_heap hM.top
  have hbl : db < w.heap.size := lt_of_heap hM.row
  have NW := rnew_any count w
  obtain ⟨L, hL⟩ : ∃ L, Hid ((dropG all) = L) := ⟨_, rfl⟩
  have hL16 : L.length = 16 := by rw [← hL.out]; rw [dropG_len]; exact h16
  rw [hL.out]
  clear hM
  go_enter Try.func15, Try.ntmps15
  go_wp2_with fail
  with_reducible refine NW.mono ?_
  rintro e z ⟨rfl, hMz, hKz⟩
  clear NW
  have HMz : Hid (IsM z (w.heap.size + 1) w.heap.size count all0) := hMz
  have HKz : Hid (Kp [] w z) := hKz
  clear hMz hKz
  go_wp2_with fail
  go_loopw [4] (fun v wr => ∃ i : Nat, i ≤ 16 ∧ v = .int .i64 i ∧ IsM wr (w.heap.size + 1) w.heap.size count (part16 L i) ∧ Kp [] w wr) (fun v _ => 16 - (intOf v).toNat)
  case atStart => exact ⟨0, by omega, rfl, HMz.out, HKz.out⟩
  case round =>
    obtain ⟨i, hi, rfl, hm, hk⟩ := hrel
    have hMr : IsM wr d db count all := HM.out.kp hk (by simp) (by simp)
    have d0 := hMr.c0
    have e0 := hm.c0
    have Hm : Hid (IsM wr (w.heap.size + 1) w.heap.size count (part16 L i)) := hm
    have Hk : Hid (Kp [] w wr) := hk
    have HMr : Hid (IsM wr d db count all) := hMr
    clear hm hk hMr
    by_cases hlt : i < 16
    · have g1 : (i : Int) < 16 := by omega
      have g2 : (0 : Int) ≤ i := by omega
      have hai : all[i]? = some (all[i]'(by omega)) := List.getElem?_eq_getElem _
      obtain ⟨x0, x1, x2⟩ := HMr.out.grp i _ hai
      have HLi : Hid (L[i]? = some (if (all[i]'(by omega)).stays then (all[i]'(by omega)) else gp0)) := by show L[i]? = _; rw [← hL.out]; unfold dropG; rw [List.getElem?_map, hai]; rfl
      generalize (all[i]'(by omega)) = g at *
      obtain ⟨th, mk, bs⟩ := g
      dsimp only at x0 x1 x2
      obtain ⟨st, hst⟩ : ∃ st, Hid (strOfNums bs = st) := ⟨_, rfl⟩
      rw [hst.out] at x1
      clear hai
      by_cases ht : th = true
      · subst ht
        by_cases hmk : mk = true
        · subst hmk
          have HLi : Hid (L[i]? = some gp0) := HLi
          have HN : Hid (∃ i' : Nat, i' ≤ 16 ∧ Value.int .i64 ((i : Int) + 1) = .int .i64 i' ∧ IsM wr (w.heap.size + 1) w.heap.size count (part16 L i') ∧ Kp [] w wr) := ⟨i + 1, by omega, by go_num, by rw [← part16_skip L i hlt HLi.out]; exact Hm.out, Hk.out⟩
          clear HLi
          go_wp2_with fail
          exact ⟨HN.out, by simp [intOf]; omega⟩
        · have hmk : mk = false := by simpa using hmk
          subst hmk
          have HLi : Hid (L[i]? = some ⟨true, false, bs⟩) := HLi
          have MD : IsM wr.drew (w.heap.size + 1) w.heap.size count (part16 L i) := Hm.out.kp (S := []) ((Kp.refl _ _).drew) (by simp) (by simp)
          obtain ⟨s1, M1, K1⟩ := mstore_group MD i hlt ⟨true, false, bs⟩
          have s1 : (storeVar 81 ⟨w.heap.size, i * 3, none⟩ (.agg #[.bool true, .string st, .bool false])).run Try.prog wr.drew = .ok () (wr.drew.setRow w.heap.size (mflat ((part16 L i).set i ⟨true, false, bs⟩)).toArray) := by rw [← hst.out]; exact s1
          rw [part16_next L hL16 i hlt _ HLi.out] at s1 M1 K1
          have nd : d ∉ [w.heap.size] := by simp; omega
          have nb : db ∉ [w.heap.size] := by simp; omega
          have nk : w.heap.size + 1 ∉ [w.heap.size] := by simp
          have HN : Hid (∃ i' : Nat, i' ≤ 16 ∧ Value.int .i64 ((i : Int) + 1) = .int .i64 i' ∧ IsM (wr.drew.setRow w.heap.size (mflat (part16 L (i + 1))).toArray) (w.heap.size + 1) w.heap.size count (part16 L i') ∧ Kp [] w (wr.drew.setRow w.heap.size (mflat (part16 L (i + 1))).toArray)) := ⟨i + 1, by omega, by go_num, M1, Hk.out.drew.fresh K1 (fun q hq => by simp at hq; subst hq; exact .inr (Nat.le_refl _))⟩
          have z0 := K1.cell (show wr.drew.cell? ⟨d, 0, none⟩ = _ from d0) nd
          have z1 := K1.cell (show wr.drew.cell? ⟨w.heap.size + 1, 0, none⟩ = _ from e0) nk
          have z2 := K1.cell (show wr.drew.cell? ⟨db, i * 3, none⟩ = _ from x0) nb
          have z3 := K1.cell (show wr.drew.cell? ⟨db, i * 3 + 1, none⟩ = _ from x1) nb
          have z4 := K1.cell (show wr.drew.cell? ⟨db, i * 3 + 2, none⟩ = _ from x2) nb
          obtain ⟨Y, hY⟩ : ∃ Y, Hid (wr.drew.setRow w.heap.size (mflat (part16 L (i + 1))).toArray = Y) := ⟨_, rfl⟩
          rw [hY.out] at s1 HN z0 z1 z2 z3 z4
          clear MD M1 K1
          go_wp2_with fail
          refine wp_region_held_drew (S := fun x => x.cell? ⟨d, 0, none⟩ = some (.slice (some ⟨db, 0, none⟩) 16 16) ∧ x.cell? ⟨w.heap.size + 1, 0, none⟩ = some (.slice (some ⟨w.heap.size, 0, none⟩) 16 16) ∧ x.cell? ⟨db, i * 3, none⟩ = some (.bool true) ∧ x.cell? ⟨db, i * 3 + 1, none⟩ = some (.string st) ∧ x.cell? ⟨db, i * 3 + 2, none⟩ = some (.bool false)) (by kernel_rfl) (⟨d0, e0, x0, x1, x2⟩) (fun hHeld => ?_)
          refine wpAnyH_take (i := 0) (v := (.pointer (some ⟨w.heap.size + 1, 0, none⟩))) rfl (by kernel_rfl) (by kernel_rfl) (by kernel_rfl) (fun _ _ _ h => h) (Or.inl ⟨by rfl, ?_⟩) (by assumption) ?_
          · intro w9 hSw
            try dsimp only at hSw
            go_simp
            all_goals try decide
            all_goals try assumption
            all_goals try omega
          try simp only [Act.put, List.getElem_toArray, List.getElem_cons_succ, List.getElem_cons_zero, List.setIfInBounds_toArray, List.set_cons_zero, List.set_cons_succ]
          refine wpAnyH_take (i := 1) (v := (.pointer (some ⟨w.heap.size + 1, 0, none⟩))) rfl (by kernel_rfl) (by kernel_rfl) (by kernel_rfl) (fun _ _ _ h => h) (Or.inl ⟨by rfl, ?_⟩) (by assumption) ?_
          · intro w9 hSw
            try dsimp only at hSw
            go_simp
            all_goals try decide
            all_goals try assumption
            all_goals try omega
          try simp only [Act.put, List.getElem_toArray, List.getElem_cons_succ, List.getElem_cons_zero, List.setIfInBounds_toArray, List.set_cons_zero, List.set_cons_succ]
          refine wpAnyH_take (i := 2) (v := (.pointer (some ⟨w.heap.size + 1, 0, none⟩))) rfl (by kernel_rfl) (by kernel_rfl) (by kernel_rfl) (fun _ _ _ h => h) (Or.inl ⟨by rfl, ?_⟩) (by assumption) ?_
          · intro w9 hSw
            try dsimp only at hSw
            go_simp
            all_goals try decide
            all_goals try assumption
            all_goals try omega
          try simp only [Act.put, List.getElem_toArray, List.getElem_cons_succ, List.getElem_cons_zero, List.setIfInBounds_toArray, List.set_cons_zero, List.set_cons_succ]
          refine wpAnyH_take (i := 3) (v := (.slice (some ⟨w.heap.size, 0, none⟩) 16 16)) rfl (by kernel_rfl) (by kernel_rfl) (by kernel_rfl) (fun _ _ _ h => h) (Or.inl ⟨by rfl, ?_⟩) (by assumption) ?_
          · intro w9 hSw
            try dsimp only at hSw
            obtain ⟨hS0, hS1, hS2, hS3, hS4⟩ := hSw
            go_simp
          try simp only [Act.put, List.getElem_toArray, List.getElem_cons_succ, List.getElem_cons_zero, List.setIfInBounds_toArray, List.set_cons_zero, List.set_cons_succ]
          refine wpAnyH_take (i := 4) (v := (.int .i64 (i : Int))) rfl (by kernel_rfl) (by kernel_rfl) (by kernel_rfl) (fun _ _ _ h => h) (Or.inl ⟨by rfl, ?_⟩) (by assumption) ?_
          · intro w9 hSw
            try dsimp only at hSw
            go_simp
            all_goals try decide
            all_goals try assumption
            all_goals try omega
          try simp only [Act.put, List.getElem_toArray, List.getElem_cons_succ, List.getElem_cons_zero, List.setIfInBounds_toArray, List.set_cons_zero, List.set_cons_succ]
          refine wpAnyH_take (i := 5) (v := (.pointer (some ⟨d, 0, none⟩))) rfl (by kernel_rfl) (by kernel_rfl) (by kernel_rfl) (fun _ _ _ h => h) (Or.inl ⟨by rfl, ?_⟩) (by assumption) ?_
          · intro w9 hSw
            try dsimp only at hSw
            go_simp
            all_goals try decide
            all_goals try assumption
            all_goals try omega
          try simp only [Act.put, List.getElem_toArray, List.getElem_cons_succ, List.getElem_cons_zero, List.setIfInBounds_toArray, List.set_cons_zero, List.set_cons_succ]
          refine wpAnyH_take (i := 6) (v := (.pointer (some ⟨d, 0, none⟩))) rfl (by kernel_rfl) (by kernel_rfl) (by kernel_rfl) (fun _ _ _ h => h) (Or.inl ⟨by rfl, ?_⟩) (by assumption) ?_
          · intro w9 hSw
            try dsimp only at hSw
            go_simp
            all_goals try decide
            all_goals try assumption
            all_goals try omega
          try simp only [Act.put, List.getElem_toArray, List.getElem_cons_succ, List.getElem_cons_zero, List.setIfInBounds_toArray, List.set_cons_zero, List.set_cons_succ]
          refine wpAnyH_take (i := 7) (v := (.pointer (some ⟨d, 0, none⟩))) rfl (by kernel_rfl) (by kernel_rfl) (by kernel_rfl) (fun _ _ _ h => h) (Or.inl ⟨by rfl, ?_⟩) (by assumption) ?_
          · intro w9 hSw
            try dsimp only at hSw
            go_simp
            all_goals try decide
            all_goals try assumption
            all_goals try omega
          try simp only [Act.put, List.getElem_toArray, List.getElem_cons_succ, List.getElem_cons_zero, List.setIfInBounds_toArray, List.set_cons_zero, List.set_cons_succ]
          refine wpAnyH_take (i := 8) (v := (.slice (some ⟨db, 0, none⟩) 16 16)) rfl (by kernel_rfl) (by kernel_rfl) (by kernel_rfl) (fun _ _ _ h => h) (Or.inl ⟨by rfl, ?_⟩) (by assumption) ?_
          · intro w9 hSw
            try dsimp only at hSw
            obtain ⟨hS0, hS1, hS2, hS3, hS4⟩ := hSw
            go_simp
          try simp only [Act.put, List.getElem_toArray, List.getElem_cons_succ, List.getElem_cons_zero, List.setIfInBounds_toArray, List.set_cons_zero, List.set_cons_succ]
          refine wpAnyH_take (i := 9) (v := (.int .i64 (i : Int))) rfl (by kernel_rfl) (by kernel_rfl) (by kernel_rfl) (fun _ _ _ h => h) (Or.inl ⟨by rfl, ?_⟩) (by assumption) ?_
          · intro w9 hSw
            try dsimp only at hSw
            go_simp
            all_goals try decide
            all_goals try assumption
            all_goals try omega
          try simp only [Act.put, List.getElem_toArray, List.getElem_cons_succ, List.getElem_cons_zero, List.setIfInBounds_toArray, List.set_cons_zero, List.set_cons_succ]
          refine wpAnyH_take (i := 10) (v := (.pointer (some ⟨db, i * 3, none⟩))) rfl (by kernel_rfl) (by kernel_rfl) (by kernel_rfl) (fun _ _ _ h => h) (Or.inl ⟨by rfl, ?_⟩) (by assumption) ?_
          · intro w9 hSw
            try dsimp only at hSw
            go_simp
            all_goals try decide
            all_goals try assumption
            all_goals try omega
          try simp only [Act.put, List.getElem_toArray, List.getElem_cons_succ, List.getElem_cons_zero, List.setIfInBounds_toArray, List.set_cons_zero, List.set_cons_succ]
          refine wpAnyH_take (i := 11) (v := (.agg #[.bool true, .string st, .bool false])) rfl (by kernel_rfl) (by kernel_rfl) (by kernel_rfl) (fun _ _ _ h => h) (Or.inl ⟨by rfl, ?_⟩) (by assumption) ?_
          · intro w9 hSw
            try dsimp only at hSw
            obtain ⟨hS0, hS1, hS2, hS3, hS4⟩ := hSw
            go_simp
          try simp only [Act.put, List.getElem_toArray, List.getElem_cons_succ, List.getElem_cons_zero, List.setIfInBounds_toArray, List.set_cons_zero, List.set_cons_succ]
          refine wpAnyH_take (i := 12) (v := (.pointer (some ⟨w.heap.size, i * 3, none⟩))) rfl (by kernel_rfl) (by kernel_rfl) (by kernel_rfl) (fun _ _ _ h => h) (Or.inl ⟨by rfl, ?_⟩) (by assumption) ?_
          · intro w9 hSw
            try dsimp only at hSw
            go_simp
            all_goals try decide
            all_goals try assumption
            all_goals try omega
          try simp only [Act.put, List.getElem_toArray, List.getElem_cons_succ, List.getElem_cons_zero, List.setIfInBounds_toArray, List.set_cons_zero, List.set_cons_succ]
          refine wpAnyH_ready (rs := [13]) (by kernel_rfl) (by simp) ?_
          refine AllReadyH.cons rfl (fun K' hK => ?_) AllReadyH.nil
          rw [if_pos (by rfl)]
          simp only [List.getElem_toArray, List.getElem_cons_succ, List.getElem_cons_zero]
          refine wp_store_by 81 (.tmp 50) (.tmp 49) rfl _ _ rfl rfl s1 ?_
          refine hK.out _ _ (⟨z0, z1, z2, z3, z4⟩) (fun hHeld => ?_)
          clear hK K'
          try simp only [Act.put, List.getElem_toArray, List.getElem_cons_succ, List.getElem_cons_zero, List.setIfInBounds_toArray, List.set_cons_zero, List.set_cons_succ]
          refine wpAnyH_done (by kernel_rfl) ?_ _
          clear s1 d0 e0 x0 x1 x2 z0 z1 z2 z3 z4
          go_wp2_with fail
          exact ⟨HN.out, by simp [intOf]; omega⟩
      · have ht : th = false := by simpa using ht
        subst ht
        have HLi : Hid (L[i]? = some gp0) := HLi
        have HN : Hid (∃ i' : Nat, i' ≤ 16 ∧ Value.int .i64 ((i : Int) + 1) = .int .i64 i' ∧ IsM wr (w.heap.size + 1) w.heap.size count (part16 L i') ∧ Kp [] w wr) := ⟨i + 1, by omega, by go_num, by rw [← part16_skip L i hlt HLi.out]; exact Hm.out, Hk.out⟩
        clear HLi
        go_wp2_with fail
        exact ⟨HN.out, by simp [intOf]; omega⟩
    · obtain rfl : i = 16 := by omega
      have hfin : Hid (IsM wr (w.heap.size + 1) w.heap.size count L) := by have := Hm.out; rw [part16_all L hL16] at this; exact this
      go_wp2_with fail
      go_ret
      exact ⟨rfl, hfin.out, Hk.out⟩
#print axioms rcopy_any
#print axioms ropened_any
end Go.Proofs.Ytgpbmccjcjoijaa
