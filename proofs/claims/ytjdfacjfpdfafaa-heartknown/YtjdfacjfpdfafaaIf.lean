/-
  HeartWatches of any row of calls.
-/
import Derived.Test.YtjdfacjfpdfafaaIf1
namespace Go.Proofs.Ytjdfacjfpdfafaa
open Go.RowKit

set_option linter.unusedSimpArgs false in
set_option maxHeartbeats 4000000 in
set_option maxRecDepth 100000 in
theorem watches_many (ad : Option Addr) (len cap : Nat) (w : World) (hl : 300 < len) : Calls Try.prog 4 #[.slice ad len cap] w fun e w' => e = .returned (.bool true) ∧ Below w.heap.size w w' := by
  have hl' : (300 : Int) < (len : Int) := by omega
  clear hl
  have NW := fun W => newW_any W
  have ND := fun W => newD_any W
  go_enter Try.func4, Try.ntmps4
  go_wp2_with fail
  refine (NW _).mono ?_
  rintro e w1 ⟨rfl, iw, b1⟩
  go_wp2_with fail
  refine (ND _).mono ?_
  rintro e w2 ⟨rfl, id, b2⟩
  have B2 : Below w.heap.size w w2 := Below.andThen b1 b2
  go_wp2_with fail
  refine (works_any _).mono ?_
  rintro e w' ⟨rfl, hb⟩
  go_wp2_with fail
  go_ret
  exact ⟨rfl, Below.andThen B2 hb⟩
set_option linter.unusedSimpArgs false in
set_option maxHeartbeats 40000000 in
set_option maxRecDepth 100000 in
theorem watches_few (ad : Option Addr) (len cap : Nat) (L : List Ox) (w : World) (o : IsOx w ad len L) (hl : len ≤ 300) : Calls Try.prog 4 #[.slice ad len cap] w fun e w' => e = .returned (.bool true) ∧ Below w.heap.size w w' := by
  have hl' : ¬ (300 : Int) < (len : Int) := by omega
  have NW := fun W => newW_any W
  have ND := fun W => newD_any W
  have O : Hid (IsOx w ad len L) := o
  have lsz := o.size
  clear o
  go_enter Try.func4, Try.ntmps4
  go_wp2_with fail
  refine (NW _).mono ?_
  rintro e w1 ⟨rfl, iw, b1⟩
  go_wp2_with fail
  refine (ND _).mono ?_
  rintro e w2 ⟨rfl, id, b2⟩
  have B2 : Below w.heap.size w w2 := Below.andThen b1 b2
  obtain ⟨p, hp⟩ : ∃ p, Hid (p = w.heap.size) := ⟨_, rfl⟩
  rw [← hp.out] at iw ⊢
  obtain ⟨r, hr⟩ : ∃ r, Hid (r = w1.heap.size) := ⟨_, rfl⟩
  obtain ⟨q, hq⟩ : ∃ q, Hid (q = w1.heap.size + 1) := ⟨_, rfl⟩
  rw [← hq.out, ← hr.out] at id
  rw [← hq.out]
  have LP : Hid (w.heap.size ≤ p ∧ w.heap.size ≤ r) := by show _ ∧ _; have := b1.size; have := hp.out; have := hr.out; omega
  have M0 : Hid (Md w2 p p q r noneS noneS) := ⟨⟨_, iw.next b2⟩, id, by have := hp.out; have := hq.out; have := b1.size; omega, by have := hp.out; have := hr.out; have := b1.size; omega⟩
  have L0 : p ≤ w2.heap.size := by have := B2.size; have := hp.out; omega
  clear hp hq hr iw id b1 b2 NW ND
  go_wp2_with fail
  go_loopw [5] (fun u wr => ∃ i : Nat, i ≤ len ∧ u = .int .i64 i ∧ Below w.heap.size w wr ∧ p ≤ wr.heap.size ∧ ∃ S, Z0 S ∧ Md wr p p q r S S) (fun u _ => len - (intOf u).toNat)
  case atStart => exact ⟨0, Nat.zero_le _, rfl, B2, L0, noneS, (fun x hx => by rw [noneS_get (by decide)] at hx; cases hx; rfl), M0.out⟩
  case round =>
    clear M0 B2 L0
    obtain ⟨i, hil, rfl, B, LL, S, ZS, MS⟩ := hrel
    have M0 : Hid (Md wr p p q r S S) := MS
    have ZH : Hid (Z0 S) := ZS
    clear MS ZS
    by_cases hlt : i < len
    rotate_left
    · have g1 : ¬ (i : Int) < (len : Int) := by omega
      go_wp2_with fail
      refine (works_any _).mono ?_
      rintro e w' ⟨rfl, hb⟩
      go_wp2_with fail
      go_ret
      exact ⟨rfl, Below.andThen B hb⟩
    have g1 : (i : Int) < (len : Int) := by omega
    obtain ⟨x, hx⟩ : ∃ x, L[i]? = some x := ⟨L[i]'(by omega), List.getElem?_eq_getElem _⟩
    have XO : Hid x.Ok := O.out.good x (List.mem_of_getElem? hx)
    obtain ⟨b, off, e2, hc⟩ := (O.out.next B).at_ (by omega)
    have c0 := hc i x hx 0 _ rfl
    have c1 := hc i x hx 1 _ rfl
    have c2 := hc i x hx 2 _ rfl
    have c3 := hc i x hx 3 _ rfl
    have c4 := hc i x hx 4 _ rfl
    have c5 := hc i x hx 5 _ rfl
    have c6 := hc i x hx 6 _ rfl
    have c7 := hc i x hx 7 _ rfl
    have c8 := hc i x hx 8 _ rfl
    have c9 := hc i x hx 9 _ rfl
    have c10 := hc i x hx 10 _ rfl
    have c11 := hc i x hx 11 _ rfl
    have c12 := hc i x hx 12 _ rfl
    have c13 := hc i x hx 13 _ rfl
    have c14 := hc i x hx 14 _ rfl
    have c15 := hc i x hx 15 _ rfl
    have lbr : b < wr.heap.size := block_lt_of_cell c0
    clear hc hx
    subst e2
    rw [Nat.add_zero] at c0
    obtain ⟨k8, hk8⟩ : ∃ k8, Hid (x.k.tmod 8 = k8) := ⟨_, rfl⟩
    have R1 := hk8.out
    have Y0 : Below w.heap.size w (wr.alloc (.cells x.A 51)) := Below.al B _
    have MY := M0.out.next (Below.al (Below.refl _ _) (.cells x.A 51))
    have gB0 := at11 wr (.cells x.A 51) wr.heap.size rfl
    have LY : p ≤ (wr.alloc (.cells x.A 51)).heap.size := by simp; omega
    clear M0 hk8
    obtain ⟨BX, hBX⟩ : ∃ BX, Hid (BX = wr.heap.size) := ⟨_, rfl⟩
    rw [← hBX.out] at gB0
    by_cases hA : k8 < 2
    · obtain ⟨rs, S', Z', SP0, SU0⟩ := set_tw (p := p) (q := q) (r := r) ZH.out x.nd x.N XO.out.2.1.1
      have SP : Hid _ := SP0
      have SU : Hid _ := SU0
      have ZN : Hid (Z0 S') := Z'
      clear SP0 SU0 Z'
      go_wp2_with fail
      rw [← hBX.out]
      generalize hy : (wr.alloc (.cells x.A 51) : World) = y at Y0 MY gB0 LY ⊢
      clear hy hBX lbr B LL c0 c1 c2 c3 c4 c5 c6 c7 c8 c9 c10 c11 c12 c13 c14 c15
      have MY : Hid (Md y p p q r S S) := MY
      have LBX : Hid (BX < y.heap.size) := lt_of_heap gB0
      refine wp_region_held_drew (S := fun x1 => x1.heap[BX]? = some (.cells x.A 51 (0, 0))) (by kernel_rfl) (gB0) (fun hHeld => ?_)
      refine wpAnyH_take (i := 0) (v := (pt p)) rfl (by kernel_rfl) (by kernel_rfl) (by kernel_rfl) (fun _ _ _ h => h) (Or.inl ⟨by rfl, ?_⟩) (by assumption) ?_
      · intro w9 hSw
        try dsimp only at hSw
        go_simp
        all_goals try decide
        all_goals try assumption
        all_goals try omega
      try simp only [Act.put, List.getElem_toArray, List.getElem_cons_succ, List.getElem_cons_zero, List.setIfInBounds_toArray, List.set_cons_zero, List.set_cons_succ]
      refine wpAnyH_take (i := 1) (v := (.pointer (some ⟨BX, 1, none⟩))) rfl (by kernel_rfl) (by kernel_rfl) (by kernel_rfl) (fun _ _ _ h => h) (Or.inl ⟨by rfl, ?_⟩) (by assumption) ?_
      · intro w9 hSw
        try dsimp only at hSw
        go_simp
        all_goals try decide
        all_goals try assumption
        all_goals try omega
      try simp only [Act.put, List.getElem_toArray, List.getElem_cons_succ, List.getElem_cons_zero, List.setIfInBounds_toArray, List.set_cons_zero, List.set_cons_succ]
      refine wpAnyH_take (i := 2) (v := (.int .u8 x.nd)) rfl (by kernel_rfl) (by kernel_rfl) (by kernel_rfl) (fun _ _ _ h => h) (Or.inl ⟨by rfl, ?_⟩) (by assumption) ?_
      · intro w9 hSw
        try dsimp only at hSw
        obtain ⟨hc0, hc1, hc3, hc4⟩ := Ox.cells hSw
        go_simp
        all_goals try assumption
      try simp only [Act.put, List.getElem_toArray, List.getElem_cons_succ, List.getElem_cons_zero, List.setIfInBounds_toArray, List.set_cons_zero, List.set_cons_succ]
      refine wpAnyH_take (i := 3) (v := (.pointer (some ⟨BX, 3, none⟩))) rfl (by kernel_rfl) (by kernel_rfl) (by kernel_rfl) (fun _ _ _ h => h) (Or.inl ⟨by rfl, ?_⟩) (by assumption) ?_
      · intro w9 hSw
        try dsimp only at hSw
        go_simp
        all_goals try decide
        all_goals try assumption
        all_goals try omega
      try simp only [Act.put, List.getElem_toArray, List.getElem_cons_succ, List.getElem_cons_zero, List.setIfInBounds_toArray, List.set_cons_zero, List.set_cons_succ]
      refine wpAnyH_take (i := 4) (v := (.int .i64 x.N)) rfl (by kernel_rfl) (by kernel_rfl) (by kernel_rfl) (fun _ _ _ h => h) (Or.inl ⟨by rfl, ?_⟩) (by assumption) ?_
      · intro w9 hSw
        try dsimp only at hSw
        obtain ⟨hc0, hc1, hc3, hc4⟩ := Ox.cells hSw
        go_simp
        all_goals try assumption
      try simp only [Act.put, List.getElem_toArray, List.getElem_cons_succ, List.getElem_cons_zero, List.setIfInBounds_toArray, List.set_cons_zero, List.set_cons_succ]
      refine wpAnyH_take (i := 6) (v := (pt q)) rfl (by kernel_rfl) (by kernel_rfl) (by kernel_rfl) (fun _ _ _ h => h) (Or.inl ⟨by rfl, ?_⟩) (by assumption) ?_
      · intro w9 hSw
        try dsimp only at hSw
        go_simp
        all_goals try decide
        all_goals try assumption
        all_goals try omega
      try simp only [Act.put, List.getElem_toArray, List.getElem_cons_succ, List.getElem_cons_zero, List.setIfInBounds_toArray, List.set_cons_zero, List.set_cons_succ]
      refine wpAnyH_take (i := 7) (v := (.pointer (some ⟨BX, 1, none⟩))) rfl (by kernel_rfl) (by kernel_rfl) (by kernel_rfl) (fun _ _ _ h => h) (Or.inl ⟨by rfl, ?_⟩) (by assumption) ?_
      · intro w9 hSw
        try dsimp only at hSw
        go_simp
        all_goals try decide
        all_goals try assumption
        all_goals try omega
      try simp only [Act.put, List.getElem_toArray, List.getElem_cons_succ, List.getElem_cons_zero, List.setIfInBounds_toArray, List.set_cons_zero, List.set_cons_succ]
      refine wpAnyH_take (i := 8) (v := (.int .u8 x.nd)) rfl (by kernel_rfl) (by kernel_rfl) (by kernel_rfl) (fun _ _ _ h => h) (Or.inl ⟨by rfl, ?_⟩) (by assumption) ?_
      · intro w9 hSw
        try dsimp only at hSw
        obtain ⟨hc0, hc1, hc3, hc4⟩ := Ox.cells hSw
        go_simp
        all_goals try assumption
      try simp only [Act.put, List.getElem_toArray, List.getElem_cons_succ, List.getElem_cons_zero, List.setIfInBounds_toArray, List.set_cons_zero, List.set_cons_succ]
      refine wpAnyH_take (i := 9) (v := (.pointer (some ⟨BX, 3, none⟩))) rfl (by kernel_rfl) (by kernel_rfl) (by kernel_rfl) (fun _ _ _ h => h) (Or.inl ⟨by rfl, ?_⟩) (by assumption) ?_
      · intro w9 hSw
        try dsimp only at hSw
        go_simp
        all_goals try decide
        all_goals try assumption
        all_goals try omega
      try simp only [Act.put, List.getElem_toArray, List.getElem_cons_succ, List.getElem_cons_zero, List.setIfInBounds_toArray, List.set_cons_zero, List.set_cons_succ]
      refine wpAnyH_take (i := 10) (v := (.int .i64 x.N)) rfl (by kernel_rfl) (by kernel_rfl) (by kernel_rfl) (fun _ _ _ h => h) (Or.inl ⟨by rfl, ?_⟩) (by assumption) ?_
      · intro w9 hSw
        try dsimp only at hSw
        obtain ⟨hc0, hc1, hc3, hc4⟩ := Ox.cells hSw
        go_simp
        all_goals try assumption
      try simp only [Act.put, List.getElem_toArray, List.getElem_cons_succ, List.getElem_cons_zero, List.setIfInBounds_toArray, List.set_cons_zero, List.set_cons_succ]
      refine wpAnyH_ready (rs := [5]) (by kernel_rfl) (by simp) ?_
      refine AllReadyH.cons rfl (fun K' hK => ?_) AllReadyH.nil
      rw [if_pos (by rfl)]
      simp only [List.getElem_toArray, List.getElem_cons_succ, List.getElem_cons_zero]
      have S0 := hHeld
      go_wp2_with fail
      refine Calls.mono (SP.out _ (MY.out.next (Below.drew (Below.refl _ _))) LY) ?_
      rintro e w3 ⟨rfl, M3, k3⟩
      try go_wp2_with fail
      have B3 : Below w.heap.size w w3 := Kt.up (Below.drew Y0) k3 LP.out.1 Y0.size
      refine hK.out _ _ (k3.typ _ _ _ _ S0 (by decide) (by decide)) (fun hHeld => ?_)
      clear hK K'
      try simp only [Act.put, List.getElem_toArray, List.getElem_cons_succ, List.getElem_cons_zero, List.setIfInBounds_toArray, List.set_cons_zero, List.set_cons_succ]
      have L3 : p ≤ w3.heap.size := Nat.le_trans LY k3.size
      clear k3
      refine wpAnyH_ready (rs := [11]) (by kernel_rfl) (by simp) ?_
      refine AllReadyH.cons rfl (fun K' hK => ?_) AllReadyH.nil
      rw [if_pos (by rfl)]
      simp only [List.getElem_toArray, List.getElem_cons_succ, List.getElem_cons_zero]
      have S0 := hHeld
      go_wp2_with fail
      refine Calls.mono (SU.out _ M3) ?_
      rintro e w4 ⟨rfl, M4, k4⟩
      try go_wp2_with fail
      have B4 : Below w.heap.size w w4 := Kp.below B3 k4 B3.size (by intro j hj; have := LP.out; simp at hj; omega)
      refine hK.out _ _ (k4.keep M3.d.l S0 (by decide)) (fun hHeld => ?_)
      clear hK K'
      try simp only [Act.put, List.getElem_toArray, List.getElem_cons_succ, List.getElem_cons_zero, List.setIfInBounds_toArray, List.set_cons_zero, List.set_cons_succ]
      have L4 : p ≤ w4.heap.size := by have := k4.size; omega
      clear k4
      refine wpAnyH_take (i := 12) (v := (.bool false)) rfl (by kernel_rfl) (by kernel_rfl) (by kernel_rfl) (fun _ _ _ h => h) (Or.inl ⟨by rfl, ?_⟩) (by assumption) ?_
      · intro w9 hSw
        try dsimp only at hSw
        go_simp
        all_goals try decide
        all_goals try assumption
        all_goals try omega
      try simp only [Act.put, List.getElem_toArray, List.getElem_cons_succ, List.getElem_cons_zero, List.setIfInBounds_toArray, List.set_cons_zero, List.set_cons_succ]
      refine wpAnyH_done (by kernel_rfl) ?_ _
      have gX := hHeld
      have M5 : Hid (Md w4 p p q r S' S') := M4
      clear hHeld S0 M3 M4 B3 L3 SP SU MY Y0 LY gB0
      have T1 : Hid _ := tells_any M5.out ZN.out x.nd XO.out.2.1.1
      have T2 : Hid (∀ W, Below w4.heap.size w4 W → Calls Try.prog 26 #[pt p, pt q, .int .u8 1] W fun e w' => e = .returned (.bool true) ∧ Below W.heap.size W w') := fun W hW => tells_any ((M5.out).next hW) ZN.out 1 (by decide)
      have NEW : Hid (∀ W, Below w4.heap.size w4 W → ∃ S, Z0 S ∧ Md W p p q r S S) := fun W hW => ⟨_, ZN.out, (M5.out).next hW⟩
      have cB := (Ox.cells gX).2.1
      have lB := lt_of_heap gX
      go_wp2_with fail
      refine Calls.mono T1.out ?_
      rintro e wt ⟨rfl, bt⟩
      go_wp2_with fail
      refine Calls.mono (T2.out _ bt) ?_
      rintro e wu ⟨rfl, bu⟩
      have BU := Below.andThen bt bu
      have FB : Below w.heap.size w wu := Below.andThen B4 BU
      have FL : p ≤ wu.heap.size := by have := BU.size; have := L4; omega
      have FN := NEW.out _ BU
      clear T1 T2 NEW bt bu BU cB lB
      go_wp2_with fail
      exact ⟨⟨i + 1, by omega, by go_num, FB, FL, FN⟩, by simp [intOf]; omega⟩
    by_cases hB : k8 < 6
    · obtain ⟨ea, ek, es, ok, S', Z', SP0, SU0⟩ := hear_tw (p := p) (q := q) (r := r) ZH.out MY.ok x.fr (Ox.fr_ok XO.out).1 (Ox.fr_ok XO.out).2 x.now
      have SP : Hid _ := SP0
      have SU : Hid _ := SU0
      have ZN : Hid (Z0 S') := Z'
      clear SP0 SU0 Z'
      have OF : Hid (∀ W, Calls Try.prog 21 #[.agg x.A] W fun e w' => e = .returned x.fr.V ∧ Below W.heap.size W w') := fun W => opf_any x XO.out W
      go_wp2_with fail
      rw [← hBX.out]
      generalize hy : (wr.alloc (.cells x.A 51) : World) = y at Y0 MY gB0 LY ⊢
      clear hy hBX lbr B LL c0 c1 c2 c3 c4 c5 c6 c7 c8 c9 c10 c11 c12 c13 c14 c15
      have MY : Hid (Md y p p q r S S) := MY
      have LBX : Hid (BX < y.heap.size) := lt_of_heap gB0
      have My0 := MY.out.next (Below.drew (Below.refl _ _))
      have By0 : Below w.heap.size w y.drew := Below.drew Y0
      have Ly0 : p ≤ y.drew.heap.size := LY
      refine wp_region_held_drew (S := fun x1 => x1.heap[BX]? = some (.cells x.A 51 (0, 0))) (by kernel_rfl) (gB0) (fun hHeld => ?_)
      refine wpAnyH_take (i := 0) (v := (pt p)) rfl (by kernel_rfl) (by kernel_rfl) (by kernel_rfl) (fun _ _ _ h => h) (Or.inl ⟨by rfl, ?_⟩) (by assumption) ?_
      · intro w9 hSw
        try dsimp only at hSw
        go_simp
        all_goals try decide
        all_goals try assumption
        all_goals try omega
      try simp only [Act.put, List.getElem_toArray, List.getElem_cons_succ, List.getElem_cons_zero, List.setIfInBounds_toArray, List.set_cons_zero, List.set_cons_succ]
      refine wpAnyH_take (i := 1) (v := (.agg x.A)) rfl (by kernel_rfl) (by kernel_rfl) (by kernel_rfl) (fun _ _ _ h => h) (Or.inl ⟨by rfl, ?_⟩) (by assumption) ?_
      · intro w9 hSw
        try dsimp only at hSw
        exact ex_load11 51 (.tmp 6) rfl _ _ rfl (loadO hSw)
      try simp only [Act.put, List.getElem_toArray, List.getElem_cons_succ, List.getElem_cons_zero, List.setIfInBounds_toArray, List.set_cons_zero, List.set_cons_succ]
      refine wpAnyH_take (i := 3) (v := (.pointer (some ⟨BX, 4, none⟩))) rfl (by kernel_rfl) (by kernel_rfl) (by kernel_rfl) (fun _ _ _ h => h) (Or.inl ⟨by rfl, ?_⟩) (by assumption) ?_
      · intro w9 hSw
        try dsimp only at hSw
        go_simp
        all_goals try decide
        all_goals try assumption
        all_goals try omega
      try simp only [Act.put, List.getElem_toArray, List.getElem_cons_succ, List.getElem_cons_zero, List.setIfInBounds_toArray, List.set_cons_zero, List.set_cons_succ]
      refine wpAnyH_take (i := 4) (v := (.int .i64 x.now)) rfl (by kernel_rfl) (by kernel_rfl) (by kernel_rfl) (fun _ _ _ h => h) (Or.inl ⟨by rfl, ?_⟩) (by assumption) ?_
      · intro w9 hSw
        try dsimp only at hSw
        obtain ⟨hc0, hc1, hc3, hc4⟩ := Ox.cells hSw
        go_simp
        all_goals try assumption
      try simp only [Act.put, List.getElem_toArray, List.getElem_cons_succ, List.getElem_cons_zero, List.setIfInBounds_toArray, List.set_cons_zero, List.set_cons_succ]
      refine wpAnyH_ready (rs := [2, 9]) (by kernel_rfl) (by simp) ?_
      refine AllReadyH.cons rfl (fun K' hK => ?_) (AllReadyH.cons rfl (fun K' hK => ?_) AllReadyH.nil)
      · rw [if_pos (by rfl)]
        simp only [List.getElem_toArray, List.getElem_cons_succ, List.getElem_cons_zero]
        have S0 := hHeld
        go_wp2_with fail
        refine Calls.mono (OF.out _) ?_
        rintro e wfP1 ⟨rfl, hbP1⟩
        try go_wp2_with fail
        have MP1 := (My0).next hbP1
        have BP1 : Below w.heap.size w wfP1 := Below.andThen By0 hbP1
        have LP1 : p ≤ wfP1.heap.size := Nat.le_trans Ly0 hbP1.size
        refine hK.out _ _ (blk11 hbP1 S0) (fun hHeld => ?_)
        clear hK K'
        try simp only [Act.put, List.getElem_toArray, List.getElem_cons_succ, List.getElem_cons_zero, List.setIfInBounds_toArray, List.set_cons_zero, List.set_cons_succ]
        clear hbP1
        refine wpAnyH_ready (rs := [5, 9]) (by kernel_rfl) (by simp) ?_
        refine AllReadyH.cons rfl (fun K' hK => ?_) (AllReadyH.cons rfl (fun K' hK => ?_) AllReadyH.nil)
        · rw [if_pos (by rfl)]
          simp only [List.getElem_toArray, List.getElem_cons_succ, List.getElem_cons_zero]
          have S0 := hHeld
          go_wp2_with fail
          refine Calls.mono (SP.out _ MP1) ?_
          rintro e wfP2 ⟨rfl, MP2, kP2⟩
          try go_wp2_with fail
          have BP2 : Below w.heap.size w wfP2 := Kt.up BP1 kP2 LP.out.1 (BP1).size
          have LP2 : p ≤ wfP2.heap.size := Nat.le_trans LP1 kP2.size
          refine hK.out _ _ (kP2.typ _ _ _ _ S0 (by decide) (by decide)) (fun hHeld => ?_)
          clear hK K'
          try simp only [Act.put, List.getElem_toArray, List.getElem_cons_succ, List.getElem_cons_zero, List.setIfInBounds_toArray, List.set_cons_zero, List.set_cons_succ]
          clear kP2
          refine wpAnyH_take (i := 6) (v := (.tuple #[.agg (evA ea ek es), .bool ok])) rfl (by kernel_rfl) (by kernel_rfl) (by kernel_rfl) (fun _ _ _ h => h) (Or.inl ⟨by rfl, ?_⟩) (by assumption) ?_
          · intro w9 hSw
            try dsimp only at hSw
            go_simp
            all_goals try decide
            all_goals try assumption
            all_goals try omega
          try simp only [Act.put, List.getElem_toArray, List.getElem_cons_succ, List.getElem_cons_zero, List.setIfInBounds_toArray, List.set_cons_zero, List.set_cons_succ]
          refine wpAnyH_take (i := 7) (v := (.agg (evA ea ek es))) rfl (by kernel_rfl) (by kernel_rfl) (by kernel_rfl) (fun _ _ _ h => h) (Or.inl ⟨by rfl, ?_⟩) (by assumption) ?_
          · intro w9 hSw
            try dsimp only at hSw
            go_simp
            all_goals try decide
            all_goals try assumption
            all_goals try omega
          try simp only [Act.put, List.getElem_toArray, List.getElem_cons_succ, List.getElem_cons_zero, List.setIfInBounds_toArray, List.set_cons_zero, List.set_cons_succ]
          refine wpAnyH_take (i := 8) (v := (.bool ok)) rfl (by kernel_rfl) (by kernel_rfl) (by kernel_rfl) (fun _ _ _ h => h) (Or.inl ⟨by rfl, ?_⟩) (by assumption) ?_
          · intro w9 hSw
            try dsimp only at hSw
            go_simp
            all_goals try decide
            all_goals try assumption
            all_goals try omega
          try simp only [Act.put, List.getElem_toArray, List.getElem_cons_succ, List.getElem_cons_zero, List.setIfInBounds_toArray, List.set_cons_zero, List.set_cons_succ]
          refine wpAnyH_ready (rs := [9]) (by kernel_rfl) (by simp) ?_
          refine AllReadyH.cons rfl (fun K' hK => ?_) AllReadyH.nil
          rw [if_pos (by rfl)]
          simp only [List.getElem_toArray, List.getElem_cons_succ, List.getElem_cons_zero]
          have S0 := hHeld
          go_wp2_with fail
          refine hK.out _ _ ((blk11 ((by repeat (first | exact Below.refl _ _ | apply Below.drew | apply Below.al)) : Below wfP2.heap.size wfP2 (wfP2.alloc (.cells (evA 0 0 0) 54))) S0)) (fun hHeld => ?_)
          clear hK K'
          try simp only [Act.put, List.getElem_toArray, List.getElem_cons_succ, List.getElem_cons_zero, List.setIfInBounds_toArray, List.set_cons_zero, List.set_cons_succ]
          have MP3 := (MP2).next ((by repeat (first | exact Below.refl _ _ | apply Below.drew | apply Below.al)) : Below wfP2.heap.size wfP2 (wfP2.alloc (.cells (evA 0 0 0) 54)))
          have BP3 : Below w.heap.size w (wfP2.alloc (.cells (evA 0 0 0) 54)) := Below.andThen BP2 ((by repeat (first | exact Below.refl _ _ | apply Below.drew | apply Below.al)) : Below wfP2.heap.size wfP2 (wfP2.alloc (.cells (evA 0 0 0) 54)))
          have AP3 : (wfP2.alloc (.cells (evA 0 0 0) 54)).heap[wfP2.heap.size]? = some (.cells (evA 0 0 0) 54 (0, 0)) := at11 _ _ _ rfl
          have LP3 : p ≤ (wfP2.alloc (.cells (evA 0 0 0) 54)).heap.size := Nat.le_trans LP2 ((by repeat (first | exact Below.refl _ _ | apply Below.drew | apply Below.al)) : Below wfP2.heap.size wfP2 (wfP2.alloc (.cells (evA 0 0 0) 54))).size
          have LbP3 : Hid (w.heap.size ≤ wfP2.heap.size) := (BP2).size
          obtain ⟨BBP, hBBP3⟩ : ∃ BB, BB = wfP2.heap.size := ⟨_, rfl⟩
          rw [← hBBP3] at AP3 LbP3 ⊢
          clear hBBP3
          generalize hzP3 : ((wfP2.alloc (.cells (evA 0 0 0) 54)) : World) = wfP3 at MP3 BP3 AP3 LP3 hHeld ⊢
          clear hzP3
          refine wpAnyH_ready (rs := [10]) (by kernel_rfl) (by simp) ?_
          refine AllReadyH.cons rfl (fun K' hK => ?_) AllReadyH.nil
          rw [if_pos (by rfl)]
          simp only [List.getElem_toArray, List.getElem_cons_succ, List.getElem_cons_zero]
          have S0 := hHeld
          have nBP4 : BX ≠ BBP := fun e => by have h9 := AP3; rw [← e, S0] at h9; simp at h9
          refine wp_store_row 54 (.tmp 8) (.tmp 95) rfl BBP (evA ea ek es) rfl rfl 54 _ AP3 infoT rfl (evA_one _ _ _) ?_
          refine hK.out _ _ ((sh11 nBP4 S0)) (fun hHeld => ?_)
          clear hK K'
          try simp only [Act.put, List.getElem_toArray, List.getElem_cons_succ, List.getElem_cons_zero, List.setIfInBounds_toArray, List.set_cons_zero, List.set_cons_succ]
          have MP4 := (MP3).oth ((Kp.refl [BBP] _).row BBP (evA ea ek es) (.inl (by simp))) AP3 (by decide) (by decide) (by decide) (by decide)
          have BP4 : Below w.heap.size w (wfP3.setRow BBP (evA ea ek es)) := below_setRow BP3 LbP3.out _
          have AP4 := setRow_heap _ _ _ (evA ea ek es) _ _ AP3
          have LP4 : p ≤ (wfP3.setRow BBP (evA ea ek es)).heap.size := by have := LP3; rw [size_setRow]; omega
          generalize hzP4 : ((wfP3.setRow BBP (evA ea ek es)) : World) = wfP4 at MP4 BP4 AP4 LP4 hHeld ⊢
          clear hzP4
          refine wpAnyH_take (i := 11) (v := (.bool ok)) rfl (by kernel_rfl) (by kernel_rfl) (by kernel_rfl) (fun _ _ _ h => h) (Or.inl ⟨by rfl, ?_⟩) (by assumption) ?_
          · intro w9 hSw
            try dsimp only at hSw
            go_simp
            all_goals try decide
            all_goals try assumption
            all_goals try omega
          try simp only [Act.put, List.getElem_toArray, List.getElem_cons_succ, List.getElem_cons_zero, List.setIfInBounds_toArray, List.set_cons_zero, List.set_cons_succ]
          refine wpAnyH_done (by kernel_rfl) ?_ _
          have gX := hHeld
          clear hHeld
          go_wp2_with fail
          have Md0 := (MP4).next (Below.drew (Below.refl _ _))
          have Bd0 : Below w.heap.size w wfP4.drew := Below.drew BP4
          have Ld0 : p ≤ wfP4.drew.heap.size := LP4
          have Ed0 : wfP4.drew.heap[BBP]? = some (.cells (evA ea ek es) 54 (0, 0)) := AP4
          refine wp_region_held_drew (S := fun x1 => x1.heap[BX]? = some (.cells x.A 51 (0, 0))) (by kernel_rfl) (gX) (fun hHeld => ?_)
          refine wpAnyH_take (i := 0) (v := (pt q)) rfl (by kernel_rfl) (by kernel_rfl) (by kernel_rfl) (fun _ _ _ h => h) (Or.inl ⟨by rfl, ?_⟩) (by assumption) ?_
          · intro w9 hSw
            try dsimp only at hSw
            go_simp
            all_goals try decide
            all_goals try assumption
            all_goals try omega
          try simp only [Act.put, List.getElem_toArray, List.getElem_cons_succ, List.getElem_cons_zero, List.setIfInBounds_toArray, List.set_cons_zero, List.set_cons_succ]
          refine wpAnyH_take (i := 1) (v := (.agg x.A)) rfl (by kernel_rfl) (by kernel_rfl) (by kernel_rfl) (fun _ _ _ h => h) (Or.inl ⟨by rfl, ?_⟩) (by assumption) ?_
          · intro w9 hSw
            try dsimp only at hSw
            exact ex_load11 51 (.tmp 6) rfl _ _ rfl (loadO hSw)
          try simp only [Act.put, List.getElem_toArray, List.getElem_cons_succ, List.getElem_cons_zero, List.setIfInBounds_toArray, List.set_cons_zero, List.set_cons_succ]
          refine wpAnyH_take (i := 3) (v := (.pointer (some ⟨BX, 4, none⟩))) rfl (by kernel_rfl) (by kernel_rfl) (by kernel_rfl) (fun _ _ _ h => h) (Or.inl ⟨by rfl, ?_⟩) (by assumption) ?_
          · intro w9 hSw
            try dsimp only at hSw
            go_simp
            all_goals try decide
            all_goals try assumption
            all_goals try omega
          try simp only [Act.put, List.getElem_toArray, List.getElem_cons_succ, List.getElem_cons_zero, List.setIfInBounds_toArray, List.set_cons_zero, List.set_cons_succ]
          refine wpAnyH_take (i := 4) (v := (.int .i64 x.now)) rfl (by kernel_rfl) (by kernel_rfl) (by kernel_rfl) (fun _ _ _ h => h) (Or.inl ⟨by rfl, ?_⟩) (by assumption) ?_
          · intro w9 hSw
            try dsimp only at hSw
            obtain ⟨hc0, hc1, hc3, hc4⟩ := Ox.cells hSw
            go_simp
            all_goals try assumption
          try simp only [Act.put, List.getElem_toArray, List.getElem_cons_succ, List.getElem_cons_zero, List.setIfInBounds_toArray, List.set_cons_zero, List.set_cons_succ]
          refine wpAnyH_ready (rs := [2, 9]) (by kernel_rfl) (by simp) ?_
          refine AllReadyH.cons rfl (fun K' hK => ?_) (AllReadyH.cons rfl (fun K' hK => ?_) AllReadyH.nil)
          · rw [if_pos (by rfl)]
            simp only [List.getElem_toArray, List.getElem_cons_succ, List.getElem_cons_zero]
            have S0 := hHeld
            go_wp2_with fail
            refine Calls.mono (OF.out _) ?_
            rintro e wfD1 ⟨rfl, hbD1⟩
            try go_wp2_with fail
            have MD1 := (Md0).next hbD1
            have BD1 : Below w.heap.size w wfD1 := Below.andThen Bd0 hbD1
            have LD1 : p ≤ wfD1.heap.size := Nat.le_trans Ld0 hbD1.size
            have ED1 := blk11 hbD1 Ed0
            refine hK.out _ _ (blk11 hbD1 S0) (fun hHeld => ?_)
            clear hK K'
            try simp only [Act.put, List.getElem_toArray, List.getElem_cons_succ, List.getElem_cons_zero, List.setIfInBounds_toArray, List.set_cons_zero, List.set_cons_succ]
            clear hbD1
            refine wpAnyH_ready (rs := [5, 9]) (by kernel_rfl) (by simp) ?_
            refine AllReadyH.cons rfl (fun K' hK => ?_) (AllReadyH.cons rfl (fun K' hK => ?_) AllReadyH.nil)
            · rw [if_pos (by rfl)]
              simp only [List.getElem_toArray, List.getElem_cons_succ, List.getElem_cons_zero]
              have S0 := hHeld
              go_wp2_with fail
              refine Calls.mono (SU.out _ MD1) ?_
              rintro e wfD2 ⟨rfl, MD2, kD2⟩
              try go_wp2_with fail
              have BD2 : Below w.heap.size w wfD2 := Kp.below BD1 kD2 (BD1).size (by intro j hj; have := LP.out; simp at hj; omega)
              have LD2 : p ≤ wfD2.heap.size := Nat.le_trans LD1 kD2.size
              have ED2 := kD2.keep (MD1).d.l ED1 (by decide)
              refine hK.out _ _ (kD2.keep (MD1).d.l S0 (by decide)) (fun hHeld => ?_)
              clear hK K'
              try simp only [Act.put, List.getElem_toArray, List.getElem_cons_succ, List.getElem_cons_zero, List.setIfInBounds_toArray, List.set_cons_zero, List.set_cons_succ]
              clear kD2
              refine wpAnyH_take (i := 6) (v := (.tuple #[.agg (evA ea ek es), .bool ok])) rfl (by kernel_rfl) (by kernel_rfl) (by kernel_rfl) (fun _ _ _ h => h) (Or.inl ⟨by rfl, ?_⟩) (by assumption) ?_
              · intro w9 hSw
                try dsimp only at hSw
                go_simp
                all_goals try decide
                all_goals try assumption
                all_goals try omega
              try simp only [Act.put, List.getElem_toArray, List.getElem_cons_succ, List.getElem_cons_zero, List.setIfInBounds_toArray, List.set_cons_zero, List.set_cons_succ]
              refine wpAnyH_take (i := 7) (v := (.agg (evA ea ek es))) rfl (by kernel_rfl) (by kernel_rfl) (by kernel_rfl) (fun _ _ _ h => h) (Or.inl ⟨by rfl, ?_⟩) (by assumption) ?_
              · intro w9 hSw
                try dsimp only at hSw
                go_simp
                all_goals try decide
                all_goals try assumption
                all_goals try omega
              try simp only [Act.put, List.getElem_toArray, List.getElem_cons_succ, List.getElem_cons_zero, List.setIfInBounds_toArray, List.set_cons_zero, List.set_cons_succ]
              refine wpAnyH_take (i := 8) (v := (.bool ok)) rfl (by kernel_rfl) (by kernel_rfl) (by kernel_rfl) (fun _ _ _ h => h) (Or.inl ⟨by rfl, ?_⟩) (by assumption) ?_
              · intro w9 hSw
                try dsimp only at hSw
                go_simp
                all_goals try decide
                all_goals try assumption
                all_goals try omega
              try simp only [Act.put, List.getElem_toArray, List.getElem_cons_succ, List.getElem_cons_zero, List.setIfInBounds_toArray, List.set_cons_zero, List.set_cons_succ]
              refine wpAnyH_ready (rs := [9]) (by kernel_rfl) (by simp) ?_
              refine AllReadyH.cons rfl (fun K' hK => ?_) AllReadyH.nil
              rw [if_pos (by rfl)]
              simp only [List.getElem_toArray, List.getElem_cons_succ, List.getElem_cons_zero]
              have S0 := hHeld
              go_wp2_with fail
              refine hK.out _ _ ((blk11 ((by repeat (first | exact Below.refl _ _ | apply Below.drew | apply Below.al)) : Below wfD2.heap.size wfD2 (wfD2.alloc (.cells (evA 0 0 0) 58))) S0)) (fun hHeld => ?_)
              clear hK K'
              try simp only [Act.put, List.getElem_toArray, List.getElem_cons_succ, List.getElem_cons_zero, List.setIfInBounds_toArray, List.set_cons_zero, List.set_cons_succ]
              have MD3 := (MD2).next ((by repeat (first | exact Below.refl _ _ | apply Below.drew | apply Below.al)) : Below wfD2.heap.size wfD2 (wfD2.alloc (.cells (evA 0 0 0) 58)))
              have BD3 : Below w.heap.size w (wfD2.alloc (.cells (evA 0 0 0) 58)) := Below.andThen BD2 ((by repeat (first | exact Below.refl _ _ | apply Below.drew | apply Below.al)) : Below wfD2.heap.size wfD2 (wfD2.alloc (.cells (evA 0 0 0) 58)))
              have AD3 : (wfD2.alloc (.cells (evA 0 0 0) 58)).heap[wfD2.heap.size]? = some (.cells (evA 0 0 0) 58 (0, 0)) := at11 _ _ _ rfl
              have LD3 : p ≤ (wfD2.alloc (.cells (evA 0 0 0) 58)).heap.size := Nat.le_trans LD2 ((by repeat (first | exact Below.refl _ _ | apply Below.drew | apply Below.al)) : Below wfD2.heap.size wfD2 (wfD2.alloc (.cells (evA 0 0 0) 58))).size
              have LbD3 : Hid (w.heap.size ≤ wfD2.heap.size) := (BD2).size
              have ED3 := blk11 ((by repeat (first | exact Below.refl _ _ | apply Below.drew | apply Below.al)) : Below wfD2.heap.size wfD2 (wfD2.alloc (.cells (evA 0 0 0) 58))) ED2
              obtain ⟨BBD, hBBD3⟩ : ∃ BB, BB = wfD2.heap.size := ⟨_, rfl⟩
              rw [← hBBD3] at AD3 LbD3 ⊢
              clear hBBD3
              generalize hzD3 : ((wfD2.alloc (.cells (evA 0 0 0) 58)) : World) = wfD3 at MD3 BD3 AD3 LD3 ED3 hHeld ⊢
              clear hzD3
              refine wpAnyH_ready (rs := [10]) (by kernel_rfl) (by simp) ?_
              refine AllReadyH.cons rfl (fun K' hK => ?_) AllReadyH.nil
              rw [if_pos (by rfl)]
              simp only [List.getElem_toArray, List.getElem_cons_succ, List.getElem_cons_zero]
              have S0 := hHeld
              have nBD4 : BX ≠ BBD := fun e => by have h9 := AD3; rw [← e, S0] at h9; simp at h9
              refine wp_store_row 58 (.tmp 10) (.tmp 104) rfl BBD (evA ea ek es) rfl rfl 58 _ AD3 infoUT rfl (evA_one _ _ _) ?_
              refine hK.out _ _ ((sh11 nBD4 S0)) (fun hHeld => ?_)
              clear hK K'
              try simp only [Act.put, List.getElem_toArray, List.getElem_cons_succ, List.getElem_cons_zero, List.setIfInBounds_toArray, List.set_cons_zero, List.set_cons_succ]
              have MD4 := (MD3).oth ((Kp.refl [BBD] _).row BBD (evA ea ek es) (.inl (by simp))) AD3 (by decide) (by decide) (by decide) (by decide)
              have BD4 : Below w.heap.size w (wfD3.setRow BBD (evA ea ek es)) := below_setRow BD3 LbD3.out _
              have AD4 := setRow_heap _ _ _ (evA ea ek es) _ _ AD3
              have LD4 : p ≤ (wfD3.setRow BBD (evA ea ek es)).heap.size := by have := LD3; rw [size_setRow]; omega
              have ED4 : (wfD3.setRow BBD (evA ea ek es)).heap[BBP]? = some (.cells (evA ea ek es) 54 (0, 0)) := sh11 (fun e => by have h9 := AD3; rw [← e, ED3] at h9; simp at h9) ED3
              generalize hzD4 : ((wfD3.setRow BBD (evA ea ek es)) : World) = wfD4 at MD4 BD4 AD4 LD4 ED4 hHeld ⊢
              clear hzD4
              refine wpAnyH_take (i := 11) (v := (.bool ok)) rfl (by kernel_rfl) (by kernel_rfl) (by kernel_rfl) (fun _ _ _ h => h) (Or.inl ⟨by rfl, ?_⟩) (by assumption) ?_
              · intro w9 hSw
                try dsimp only at hSw
                go_simp
                all_goals try decide
                all_goals try assumption
                all_goals try omega
              try simp only [Act.put, List.getElem_toArray, List.getElem_cons_succ, List.getElem_cons_zero, List.setIfInBounds_toArray, List.set_cons_zero, List.set_cons_succ]
              refine wpAnyH_done (by kernel_rfl) ?_ _
              have gX := hHeld
              have M9 : Hid (Md wfD4 p p q r S' S') := MD4
              have B9 := BD4
              have L9 := LD4
              have f0 : wfD4.cell? ⟨BBP, 0, none⟩ = some (.int .u8 ea) := by rw [cell_of_row _ _ 0 _ _ _ ED4]; rfl
              have f1 : wfD4.cell? ⟨BBP, 1, none⟩ = some (.int .u8 ek) := by rw [cell_of_row _ _ 1 _ _ _ ED4]; rfl
              have f2 : wfD4.cell? ⟨BBP, 2, none⟩ = some (.int .u8 es) := by rw [cell_of_row _ _ 2 _ _ _ ED4]; rfl
              have h0 : wfD4.cell? ⟨BBD, 0, none⟩ = some (.int .u8 ea) := by rw [cell_of_row _ _ 0 _ _ _ AD4]; rfl
              have h1 : wfD4.cell? ⟨BBD, 1, none⟩ = some (.int .u8 ek) := by rw [cell_of_row _ _ 1 _ _ _ AD4]; rfl
              have h2 : wfD4.cell? ⟨BBD, 2, none⟩ = some (.int .u8 es) := by rw [cell_of_row _ _ 2 _ _ _ AD4]; rfl
              have lf := lt_of_heap ED4
              have lh := lt_of_heap AD4
              clear hHeld SP SU OF
              go_wp2_with fail
              refine (same_any ea ek es _).mono ?_
              rintro e ws ⟨rfl, hbs⟩
              have M10 : Hid (Md ws p p q r S' S') := M9.out.next hbs
              have B10 : Below w.heap.size w ws := Below.andThen B9 hbs
              have L10 : p ≤ ws.heap.size := by have := hbs.size; omega
              have gX10 := blk11 hbs gX
              clear f0 f1 f2 h0 h1 h2 lf lh hbs B9 L9 gX M9
              have T1 : Hid _ := tells_any M10.out ZN.out x.nd XO.out.2.1.1
              have T2 : Hid (∀ W, Below ws.heap.size ws W → Calls Try.prog 26 #[pt p, pt q, .int .u8 1] W fun e w' => e = .returned (.bool true) ∧ Below W.heap.size W w') := fun W hW => tells_any ((M10.out).next hW) ZN.out 1 (by decide)
              have NEW : Hid (∀ W, Below ws.heap.size ws W → ∃ S, Z0 S ∧ Md W p p q r S S) := fun W hW => ⟨_, ZN.out, (M10.out).next hW⟩
              have cB := (Ox.cells gX10).2.1
              have lB := lt_of_heap gX10
              go_wp2_with fail
              refine Calls.mono T1.out ?_
              rintro e wt ⟨rfl, bt⟩
              go_wp2_with fail
              refine Calls.mono (T2.out _ bt) ?_
              rintro e wu ⟨rfl, bu⟩
              have BU := Below.andThen bt bu
              have FB : Below w.heap.size w wu := Below.andThen B10 BU
              have FL : p ≤ wu.heap.size := by have := BU.size; have := L10; omega
              have FN := NEW.out _ BU
              clear T1 T2 NEW bt bu BU cB lB
              go_wp2_with fail
              exact ⟨⟨i + 1, by omega, by go_num, FB, FL, FN⟩, by simp [intOf]; omega⟩
            · rw [if_pos (by rfl)]
              simp only [List.getElem_toArray, List.getElem_cons_succ, List.getElem_cons_zero]
              have S0 := hHeld
              go_wp2_with fail
              refine hK.out _ _ ((blk11 ((by repeat (first | exact Below.refl _ _ | apply Below.drew | apply Below.al)) : Below wfD1.heap.size wfD1 (wfD1.alloc (.cells (evA 0 0 0) 58))) S0)) (fun hHeld => ?_)
              clear hK K'
              try simp only [Act.put, List.getElem_toArray, List.getElem_cons_succ, List.getElem_cons_zero, List.setIfInBounds_toArray, List.set_cons_zero, List.set_cons_succ]
              have MD2 := (MD1).next ((by repeat (first | exact Below.refl _ _ | apply Below.drew | apply Below.al)) : Below wfD1.heap.size wfD1 (wfD1.alloc (.cells (evA 0 0 0) 58)))
              have BD2 : Below w.heap.size w (wfD1.alloc (.cells (evA 0 0 0) 58)) := Below.andThen BD1 ((by repeat (first | exact Below.refl _ _ | apply Below.drew | apply Below.al)) : Below wfD1.heap.size wfD1 (wfD1.alloc (.cells (evA 0 0 0) 58)))
              have AD2 : (wfD1.alloc (.cells (evA 0 0 0) 58)).heap[wfD1.heap.size]? = some (.cells (evA 0 0 0) 58 (0, 0)) := at11 _ _ _ rfl
              have LD2 : p ≤ (wfD1.alloc (.cells (evA 0 0 0) 58)).heap.size := Nat.le_trans LD1 ((by repeat (first | exact Below.refl _ _ | apply Below.drew | apply Below.al)) : Below wfD1.heap.size wfD1 (wfD1.alloc (.cells (evA 0 0 0) 58))).size
              have LbD2 : Hid (w.heap.size ≤ wfD1.heap.size) := (BD1).size
              have ED2 := blk11 ((by repeat (first | exact Below.refl _ _ | apply Below.drew | apply Below.al)) : Below wfD1.heap.size wfD1 (wfD1.alloc (.cells (evA 0 0 0) 58))) ED1
              obtain ⟨BBD, hBBD2⟩ : ∃ BB, BB = wfD1.heap.size := ⟨_, rfl⟩
              rw [← hBBD2] at AD2 LbD2 ⊢
              clear hBBD2
              generalize hzD2 : ((wfD1.alloc (.cells (evA 0 0 0) 58)) : World) = wfD2 at MD2 BD2 AD2 LD2 ED2 hHeld ⊢
              clear hzD2
              refine wpAnyH_ready (rs := [5]) (by kernel_rfl) (by simp) ?_
              refine AllReadyH.cons rfl (fun K' hK => ?_) AllReadyH.nil
              rw [if_pos (by rfl)]
              simp only [List.getElem_toArray, List.getElem_cons_succ, List.getElem_cons_zero]
              have S0 := hHeld
              go_wp2_with fail
              refine Calls.mono (SU.out _ MD2) ?_
              rintro e wfD3 ⟨rfl, MD3, kD3⟩
              try go_wp2_with fail
              have BD3 : Below w.heap.size w wfD3 := Kp.below BD2 kD3 (BD2).size (by intro j hj; have := LP.out; simp at hj; omega)
              have LD3 : p ≤ wfD3.heap.size := Nat.le_trans LD2 kD3.size
              have AD3 := kD3.keep (MD2).d.l AD2 (by decide)
              have ED3 := kD3.keep (MD2).d.l ED2 (by decide)
              refine hK.out _ _ (kD3.keep (MD2).d.l S0 (by decide)) (fun hHeld => ?_)
              clear hK K'
              try simp only [Act.put, List.getElem_toArray, List.getElem_cons_succ, List.getElem_cons_zero, List.setIfInBounds_toArray, List.set_cons_zero, List.set_cons_succ]
              clear kD3
              refine wpAnyH_take (i := 6) (v := (.tuple #[.agg (evA ea ek es), .bool ok])) rfl (by kernel_rfl) (by kernel_rfl) (by kernel_rfl) (fun _ _ _ h => h) (Or.inl ⟨by rfl, ?_⟩) (by assumption) ?_
              · intro w9 hSw
                try dsimp only at hSw
                go_simp
                all_goals try decide
                all_goals try assumption
                all_goals try omega
              try simp only [Act.put, List.getElem_toArray, List.getElem_cons_succ, List.getElem_cons_zero, List.setIfInBounds_toArray, List.set_cons_zero, List.set_cons_succ]
              refine wpAnyH_take (i := 7) (v := (.agg (evA ea ek es))) rfl (by kernel_rfl) (by kernel_rfl) (by kernel_rfl) (fun _ _ _ h => h) (Or.inl ⟨by rfl, ?_⟩) (by assumption) ?_
              · intro w9 hSw
                try dsimp only at hSw
                go_simp
                all_goals try decide
                all_goals try assumption
                all_goals try omega
              try simp only [Act.put, List.getElem_toArray, List.getElem_cons_succ, List.getElem_cons_zero, List.setIfInBounds_toArray, List.set_cons_zero, List.set_cons_succ]
              refine wpAnyH_take (i := 8) (v := (.bool ok)) rfl (by kernel_rfl) (by kernel_rfl) (by kernel_rfl) (fun _ _ _ h => h) (Or.inl ⟨by rfl, ?_⟩) (by assumption) ?_
              · intro w9 hSw
                try dsimp only at hSw
                go_simp
                all_goals try decide
                all_goals try assumption
                all_goals try omega
              try simp only [Act.put, List.getElem_toArray, List.getElem_cons_succ, List.getElem_cons_zero, List.setIfInBounds_toArray, List.set_cons_zero, List.set_cons_succ]
              refine wpAnyH_ready (rs := [10]) (by kernel_rfl) (by simp) ?_
              refine AllReadyH.cons rfl (fun K' hK => ?_) AllReadyH.nil
              rw [if_pos (by rfl)]
              simp only [List.getElem_toArray, List.getElem_cons_succ, List.getElem_cons_zero]
              have S0 := hHeld
              have nBD4 : BX ≠ BBD := fun e => by have h9 := AD3; rw [← e, S0] at h9; simp at h9
              refine wp_store_row 58 (.tmp 10) (.tmp 104) rfl BBD (evA ea ek es) rfl rfl 58 _ AD3 infoUT rfl (evA_one _ _ _) ?_
              refine hK.out _ _ ((sh11 nBD4 S0)) (fun hHeld => ?_)
              clear hK K'
              try simp only [Act.put, List.getElem_toArray, List.getElem_cons_succ, List.getElem_cons_zero, List.setIfInBounds_toArray, List.set_cons_zero, List.set_cons_succ]
              have MD4 := (MD3).oth ((Kp.refl [BBD] _).row BBD (evA ea ek es) (.inl (by simp))) AD3 (by decide) (by decide) (by decide) (by decide)
              have BD4 : Below w.heap.size w (wfD3.setRow BBD (evA ea ek es)) := below_setRow BD3 LbD2.out _
              have AD4 := setRow_heap _ _ _ (evA ea ek es) _ _ AD3
              have LD4 : p ≤ (wfD3.setRow BBD (evA ea ek es)).heap.size := by have := LD3; rw [size_setRow]; omega
              have ED4 : (wfD3.setRow BBD (evA ea ek es)).heap[BBP]? = some (.cells (evA ea ek es) 54 (0, 0)) := sh11 (fun e => by have h9 := AD3; rw [← e, ED3] at h9; simp at h9) ED3
              generalize hzD4 : ((wfD3.setRow BBD (evA ea ek es)) : World) = wfD4 at MD4 BD4 AD4 LD4 ED4 hHeld ⊢
              clear hzD4
              refine wpAnyH_take (i := 11) (v := (.bool ok)) rfl (by kernel_rfl) (by kernel_rfl) (by kernel_rfl) (fun _ _ _ h => h) (Or.inl ⟨by rfl, ?_⟩) (by assumption) ?_
              · intro w9 hSw
                try dsimp only at hSw
                go_simp
                all_goals try decide
                all_goals try assumption
                all_goals try omega
              try simp only [Act.put, List.getElem_toArray, List.getElem_cons_succ, List.getElem_cons_zero, List.setIfInBounds_toArray, List.set_cons_zero, List.set_cons_succ]
              refine wpAnyH_done (by kernel_rfl) ?_ _
              have gX := hHeld
              have M9 : Hid (Md wfD4 p p q r S' S') := MD4
              have B9 := BD4
              have L9 := LD4
              have f0 : wfD4.cell? ⟨BBP, 0, none⟩ = some (.int .u8 ea) := by rw [cell_of_row _ _ 0 _ _ _ ED4]; rfl
              have f1 : wfD4.cell? ⟨BBP, 1, none⟩ = some (.int .u8 ek) := by rw [cell_of_row _ _ 1 _ _ _ ED4]; rfl
              have f2 : wfD4.cell? ⟨BBP, 2, none⟩ = some (.int .u8 es) := by rw [cell_of_row _ _ 2 _ _ _ ED4]; rfl
              have h0 : wfD4.cell? ⟨BBD, 0, none⟩ = some (.int .u8 ea) := by rw [cell_of_row _ _ 0 _ _ _ AD4]; rfl
              have h1 : wfD4.cell? ⟨BBD, 1, none⟩ = some (.int .u8 ek) := by rw [cell_of_row _ _ 1 _ _ _ AD4]; rfl
              have h2 : wfD4.cell? ⟨BBD, 2, none⟩ = some (.int .u8 es) := by rw [cell_of_row _ _ 2 _ _ _ AD4]; rfl
              have lf := lt_of_heap ED4
              have lh := lt_of_heap AD4
              clear hHeld SP SU OF
              go_wp2_with fail
              refine (same_any ea ek es _).mono ?_
              rintro e ws ⟨rfl, hbs⟩
              have M10 : Hid (Md ws p p q r S' S') := M9.out.next hbs
              have B10 : Below w.heap.size w ws := Below.andThen B9 hbs
              have L10 : p ≤ ws.heap.size := by have := hbs.size; omega
              have gX10 := blk11 hbs gX
              clear f0 f1 f2 h0 h1 h2 lf lh hbs B9 L9 gX M9
              have T1 : Hid _ := tells_any M10.out ZN.out x.nd XO.out.2.1.1
              have T2 : Hid (∀ W, Below ws.heap.size ws W → Calls Try.prog 26 #[pt p, pt q, .int .u8 1] W fun e w' => e = .returned (.bool true) ∧ Below W.heap.size W w') := fun W hW => tells_any ((M10.out).next hW) ZN.out 1 (by decide)
              have NEW : Hid (∀ W, Below ws.heap.size ws W → ∃ S, Z0 S ∧ Md W p p q r S S) := fun W hW => ⟨_, ZN.out, (M10.out).next hW⟩
              have cB := (Ox.cells gX10).2.1
              have lB := lt_of_heap gX10
              go_wp2_with fail
              refine Calls.mono T1.out ?_
              rintro e wt ⟨rfl, bt⟩
              go_wp2_with fail
              refine Calls.mono (T2.out _ bt) ?_
              rintro e wu ⟨rfl, bu⟩
              have BU := Below.andThen bt bu
              have FB : Below w.heap.size w wu := Below.andThen B10 BU
              have FL : p ≤ wu.heap.size := by have := BU.size; have := L10; omega
              have FN := NEW.out _ BU
              clear T1 T2 NEW bt bu BU cB lB
              go_wp2_with fail
              exact ⟨⟨i + 1, by omega, by go_num, FB, FL, FN⟩, by simp [intOf]; omega⟩
          · rw [if_pos (by rfl)]
            simp only [List.getElem_toArray, List.getElem_cons_succ, List.getElem_cons_zero]
            have S0 := hHeld
            go_wp2_with fail
            refine hK.out _ _ ((blk11 ((al_drew _ _) : Below wfP4.heap.size wfP4.drew ((wfP4.alloc (.cells (evA 0 0 0) 58)).drew)) S0)) (fun hHeld => ?_)
            clear hK K'
            try simp only [Act.put, List.getElem_toArray, List.getElem_cons_succ, List.getElem_cons_zero, List.setIfInBounds_toArray, List.set_cons_zero, List.set_cons_succ]
            have MD1 := (Md0).next ((al_drew _ _) : Below wfP4.heap.size wfP4.drew ((wfP4.alloc (.cells (evA 0 0 0) 58)).drew))
            have BD1 : Below w.heap.size w ((wfP4.alloc (.cells (evA 0 0 0) 58)).drew) := Below.andThen Bd0 ((al_drew _ _) : Below wfP4.heap.size wfP4.drew ((wfP4.alloc (.cells (evA 0 0 0) 58)).drew))
            have AD1 : ((wfP4.alloc (.cells (evA 0 0 0) 58)).drew).heap[wfP4.heap.size]? = some (.cells (evA 0 0 0) 58 (0, 0)) := at11 _ _ _ rfl
            have LD1 : p ≤ ((wfP4.alloc (.cells (evA 0 0 0) 58)).drew).heap.size := Nat.le_trans Ld0 ((al_drew _ _) : Below wfP4.heap.size wfP4.drew ((wfP4.alloc (.cells (evA 0 0 0) 58)).drew)).size
            have LbD1 : Hid (w.heap.size ≤ wfP4.heap.size) := (Bd0).size
            have ED1 := blk11 ((al_drew _ _) : Below wfP4.heap.size wfP4.drew ((wfP4.alloc (.cells (evA 0 0 0) 58)).drew)) Ed0
            obtain ⟨BBD, hBBD1⟩ : ∃ BB, BB = wfP4.heap.size := ⟨_, rfl⟩
            rw [← hBBD1] at AD1 LbD1 ⊢
            clear hBBD1
            generalize hzD1 : (((wfP4.alloc (.cells (evA 0 0 0) 58)).drew) : World) = wfD1 at MD1 BD1 AD1 LD1 ED1 hHeld ⊢
            clear hzD1
            refine wpAnyH_ready (rs := [2]) (by kernel_rfl) (by simp) ?_
            refine AllReadyH.cons rfl (fun K' hK => ?_) AllReadyH.nil
            rw [if_pos (by rfl)]
            simp only [List.getElem_toArray, List.getElem_cons_succ, List.getElem_cons_zero]
            have S0 := hHeld
            go_wp2_with fail
            refine Calls.mono (OF.out _) ?_
            rintro e wfD2 ⟨rfl, hbD2⟩
            try go_wp2_with fail
            have MD2 := (MD1).next hbD2
            have BD2 : Below w.heap.size w wfD2 := Below.andThen BD1 hbD2
            have LD2 : p ≤ wfD2.heap.size := Nat.le_trans LD1 hbD2.size
            have AD2 := blk11 hbD2 AD1
            have ED2 := blk11 hbD2 ED1
            refine hK.out _ _ (blk11 hbD2 S0) (fun hHeld => ?_)
            clear hK K'
            try simp only [Act.put, List.getElem_toArray, List.getElem_cons_succ, List.getElem_cons_zero, List.setIfInBounds_toArray, List.set_cons_zero, List.set_cons_succ]
            clear hbD2
            refine wpAnyH_ready (rs := [5]) (by kernel_rfl) (by simp) ?_
            refine AllReadyH.cons rfl (fun K' hK => ?_) AllReadyH.nil
            rw [if_pos (by rfl)]
            simp only [List.getElem_toArray, List.getElem_cons_succ, List.getElem_cons_zero]
            have S0 := hHeld
            go_wp2_with fail
            refine Calls.mono (SU.out _ MD2) ?_
            rintro e wfD3 ⟨rfl, MD3, kD3⟩
            try go_wp2_with fail
            have BD3 : Below w.heap.size w wfD3 := Kp.below BD2 kD3 (BD2).size (by intro j hj; have := LP.out; simp at hj; omega)
            have LD3 : p ≤ wfD3.heap.size := Nat.le_trans LD2 kD3.size
            have AD3 := kD3.keep (MD2).d.l AD2 (by decide)
            have ED3 := kD3.keep (MD2).d.l ED2 (by decide)
            refine hK.out _ _ (kD3.keep (MD2).d.l S0 (by decide)) (fun hHeld => ?_)
            clear hK K'
            try simp only [Act.put, List.getElem_toArray, List.getElem_cons_succ, List.getElem_cons_zero, List.setIfInBounds_toArray, List.set_cons_zero, List.set_cons_succ]
            clear kD3
            refine wpAnyH_take (i := 6) (v := (.tuple #[.agg (evA ea ek es), .bool ok])) rfl (by kernel_rfl) (by kernel_rfl) (by kernel_rfl) (fun _ _ _ h => h) (Or.inl ⟨by rfl, ?_⟩) (by assumption) ?_
            · intro w9 hSw
              try dsimp only at hSw
              go_simp
              all_goals try decide
              all_goals try assumption
              all_goals try omega
            try simp only [Act.put, List.getElem_toArray, List.getElem_cons_succ, List.getElem_cons_zero, List.setIfInBounds_toArray, List.set_cons_zero, List.set_cons_succ]
            refine wpAnyH_take (i := 7) (v := (.agg (evA ea ek es))) rfl (by kernel_rfl) (by kernel_rfl) (by kernel_rfl) (fun _ _ _ h => h) (Or.inl ⟨by rfl, ?_⟩) (by assumption) ?_
            · intro w9 hSw
              try dsimp only at hSw
              go_simp
              all_goals try decide
              all_goals try assumption
              all_goals try omega
            try simp only [Act.put, List.getElem_toArray, List.getElem_cons_succ, List.getElem_cons_zero, List.setIfInBounds_toArray, List.set_cons_zero, List.set_cons_succ]
            refine wpAnyH_take (i := 8) (v := (.bool ok)) rfl (by kernel_rfl) (by kernel_rfl) (by kernel_rfl) (fun _ _ _ h => h) (Or.inl ⟨by rfl, ?_⟩) (by assumption) ?_
            · intro w9 hSw
              try dsimp only at hSw
              go_simp
              all_goals try decide
              all_goals try assumption
              all_goals try omega
            try simp only [Act.put, List.getElem_toArray, List.getElem_cons_succ, List.getElem_cons_zero, List.setIfInBounds_toArray, List.set_cons_zero, List.set_cons_succ]
            refine wpAnyH_ready (rs := [10]) (by kernel_rfl) (by simp) ?_
            refine AllReadyH.cons rfl (fun K' hK => ?_) AllReadyH.nil
            rw [if_pos (by rfl)]
            simp only [List.getElem_toArray, List.getElem_cons_succ, List.getElem_cons_zero]
            have S0 := hHeld
            have nBD4 : BX ≠ BBD := fun e => by have h9 := AD3; rw [← e, S0] at h9; simp at h9
            refine wp_store_row 58 (.tmp 10) (.tmp 104) rfl BBD (evA ea ek es) rfl rfl 58 _ AD3 infoUT rfl (evA_one _ _ _) ?_
            refine hK.out _ _ ((sh11 nBD4 S0)) (fun hHeld => ?_)
            clear hK K'
            try simp only [Act.put, List.getElem_toArray, List.getElem_cons_succ, List.getElem_cons_zero, List.setIfInBounds_toArray, List.set_cons_zero, List.set_cons_succ]
            have MD4 := (MD3).oth ((Kp.refl [BBD] _).row BBD (evA ea ek es) (.inl (by simp))) AD3 (by decide) (by decide) (by decide) (by decide)
            have BD4 : Below w.heap.size w (wfD3.setRow BBD (evA ea ek es)) := below_setRow BD3 LbD1.out _
            have AD4 := setRow_heap _ _ _ (evA ea ek es) _ _ AD3
            have LD4 : p ≤ (wfD3.setRow BBD (evA ea ek es)).heap.size := by have := LD3; rw [size_setRow]; omega
            have ED4 : (wfD3.setRow BBD (evA ea ek es)).heap[BBP]? = some (.cells (evA ea ek es) 54 (0, 0)) := sh11 (fun e => by have h9 := AD3; rw [← e, ED3] at h9; simp at h9) ED3
            generalize hzD4 : ((wfD3.setRow BBD (evA ea ek es)) : World) = wfD4 at MD4 BD4 AD4 LD4 ED4 hHeld ⊢
            clear hzD4
            refine wpAnyH_take (i := 11) (v := (.bool ok)) rfl (by kernel_rfl) (by kernel_rfl) (by kernel_rfl) (fun _ _ _ h => h) (Or.inl ⟨by rfl, ?_⟩) (by assumption) ?_
            · intro w9 hSw
              try dsimp only at hSw
              go_simp
              all_goals try decide
              all_goals try assumption
              all_goals try omega
            try simp only [Act.put, List.getElem_toArray, List.getElem_cons_succ, List.getElem_cons_zero, List.setIfInBounds_toArray, List.set_cons_zero, List.set_cons_succ]
            refine wpAnyH_done (by kernel_rfl) ?_ _
            have gX := hHeld
            have M9 : Hid (Md wfD4 p p q r S' S') := MD4
            have B9 := BD4
            have L9 := LD4
            have f0 : wfD4.cell? ⟨BBP, 0, none⟩ = some (.int .u8 ea) := by rw [cell_of_row _ _ 0 _ _ _ ED4]; rfl
            have f1 : wfD4.cell? ⟨BBP, 1, none⟩ = some (.int .u8 ek) := by rw [cell_of_row _ _ 1 _ _ _ ED4]; rfl
            have f2 : wfD4.cell? ⟨BBP, 2, none⟩ = some (.int .u8 es) := by rw [cell_of_row _ _ 2 _ _ _ ED4]; rfl
            have h0 : wfD4.cell? ⟨BBD, 0, none⟩ = some (.int .u8 ea) := by rw [cell_of_row _ _ 0 _ _ _ AD4]; rfl
            have h1 : wfD4.cell? ⟨BBD, 1, none⟩ = some (.int .u8 ek) := by rw [cell_of_row _ _ 1 _ _ _ AD4]; rfl
            have h2 : wfD4.cell? ⟨BBD, 2, none⟩ = some (.int .u8 es) := by rw [cell_of_row _ _ 2 _ _ _ AD4]; rfl
            have lf := lt_of_heap ED4
            have lh := lt_of_heap AD4
            clear hHeld SP SU OF
            go_wp2_with fail
            refine (same_any ea ek es _).mono ?_
            rintro e ws ⟨rfl, hbs⟩
            have M10 : Hid (Md ws p p q r S' S') := M9.out.next hbs
            have B10 : Below w.heap.size w ws := Below.andThen B9 hbs
            have L10 : p ≤ ws.heap.size := by have := hbs.size; omega
            have gX10 := blk11 hbs gX
            clear f0 f1 f2 h0 h1 h2 lf lh hbs B9 L9 gX M9
            have T1 : Hid _ := tells_any M10.out ZN.out x.nd XO.out.2.1.1
            have T2 : Hid (∀ W, Below ws.heap.size ws W → Calls Try.prog 26 #[pt p, pt q, .int .u8 1] W fun e w' => e = .returned (.bool true) ∧ Below W.heap.size W w') := fun W hW => tells_any ((M10.out).next hW) ZN.out 1 (by decide)
            have NEW : Hid (∀ W, Below ws.heap.size ws W → ∃ S, Z0 S ∧ Md W p p q r S S) := fun W hW => ⟨_, ZN.out, (M10.out).next hW⟩
            have cB := (Ox.cells gX10).2.1
            have lB := lt_of_heap gX10
            go_wp2_with fail
            refine Calls.mono T1.out ?_
            rintro e wt ⟨rfl, bt⟩
            go_wp2_with fail
            refine Calls.mono (T2.out _ bt) ?_
            rintro e wu ⟨rfl, bu⟩
            have BU := Below.andThen bt bu
            have FB : Below w.heap.size w wu := Below.andThen B10 BU
            have FL : p ≤ wu.heap.size := by have := BU.size; have := L10; omega
            have FN := NEW.out _ BU
            clear T1 T2 NEW bt bu BU cB lB
            go_wp2_with fail
            exact ⟨⟨i + 1, by omega, by go_num, FB, FL, FN⟩, by simp [intOf]; omega⟩
        · rw [if_pos (by rfl)]
          simp only [List.getElem_toArray, List.getElem_cons_succ, List.getElem_cons_zero]
          have S0 := hHeld
          go_wp2_with fail
          refine hK.out _ _ ((blk11 ((by repeat (first | exact Below.refl _ _ | apply Below.drew | apply Below.al)) : Below wfP1.heap.size wfP1 (wfP1.alloc (.cells (evA 0 0 0) 54))) S0)) (fun hHeld => ?_)
          clear hK K'
          try simp only [Act.put, List.getElem_toArray, List.getElem_cons_succ, List.getElem_cons_zero, List.setIfInBounds_toArray, List.set_cons_zero, List.set_cons_succ]
          have MP2 := (MP1).next ((by repeat (first | exact Below.refl _ _ | apply Below.drew | apply Below.al)) : Below wfP1.heap.size wfP1 (wfP1.alloc (.cells (evA 0 0 0) 54)))
          have BP2 : Below w.heap.size w (wfP1.alloc (.cells (evA 0 0 0) 54)) := Below.andThen BP1 ((by repeat (first | exact Below.refl _ _ | apply Below.drew | apply Below.al)) : Below wfP1.heap.size wfP1 (wfP1.alloc (.cells (evA 0 0 0) 54)))
          have AP2 : (wfP1.alloc (.cells (evA 0 0 0) 54)).heap[wfP1.heap.size]? = some (.cells (evA 0 0 0) 54 (0, 0)) := at11 _ _ _ rfl
          have LP2 : p ≤ (wfP1.alloc (.cells (evA 0 0 0) 54)).heap.size := Nat.le_trans LP1 ((by repeat (first | exact Below.refl _ _ | apply Below.drew | apply Below.al)) : Below wfP1.heap.size wfP1 (wfP1.alloc (.cells (evA 0 0 0) 54))).size
          have LbP2 : Hid (w.heap.size ≤ wfP1.heap.size) := (BP1).size
          obtain ⟨BBP, hBBP2⟩ : ∃ BB, BB = wfP1.heap.size := ⟨_, rfl⟩
          rw [← hBBP2] at AP2 LbP2 ⊢
          clear hBBP2
          generalize hzP2 : ((wfP1.alloc (.cells (evA 0 0 0) 54)) : World) = wfP2 at MP2 BP2 AP2 LP2 hHeld ⊢
          clear hzP2
          refine wpAnyH_ready (rs := [5]) (by kernel_rfl) (by simp) ?_
          refine AllReadyH.cons rfl (fun K' hK => ?_) AllReadyH.nil
          rw [if_pos (by rfl)]
          simp only [List.getElem_toArray, List.getElem_cons_succ, List.getElem_cons_zero]
          have S0 := hHeld
          go_wp2_with fail
          refine Calls.mono (SP.out _ MP2) ?_
          rintro e wfP3 ⟨rfl, MP3, kP3⟩
          try go_wp2_with fail
          have BP3 : Below w.heap.size w wfP3 := Kt.up BP2 kP3 LP.out.1 (BP2).size
          have LP3 : p ≤ wfP3.heap.size := Nat.le_trans LP2 kP3.size
          have AP3 := kP3.typ _ _ _ _ AP2 (by decide) (by decide)
          refine hK.out _ _ (kP3.typ _ _ _ _ S0 (by decide) (by decide)) (fun hHeld => ?_)
          clear hK K'
          try simp only [Act.put, List.getElem_toArray, List.getElem_cons_succ, List.getElem_cons_zero, List.setIfInBounds_toArray, List.set_cons_zero, List.set_cons_succ]
          clear kP3
          refine wpAnyH_take (i := 6) (v := (.tuple #[.agg (evA ea ek es), .bool ok])) rfl (by kernel_rfl) (by kernel_rfl) (by kernel_rfl) (fun _ _ _ h => h) (Or.inl ⟨by rfl, ?_⟩) (by assumption) ?_
          · intro w9 hSw
            try dsimp only at hSw
            go_simp
            all_goals try decide
            all_goals try assumption
            all_goals try omega
          try simp only [Act.put, List.getElem_toArray, List.getElem_cons_succ, List.getElem_cons_zero, List.setIfInBounds_toArray, List.set_cons_zero, List.set_cons_succ]
          refine wpAnyH_take (i := 7) (v := (.agg (evA ea ek es))) rfl (by kernel_rfl) (by kernel_rfl) (by kernel_rfl) (fun _ _ _ h => h) (Or.inl ⟨by rfl, ?_⟩) (by assumption) ?_
          · intro w9 hSw
            try dsimp only at hSw
            go_simp
            all_goals try decide
            all_goals try assumption
            all_goals try omega
          try simp only [Act.put, List.getElem_toArray, List.getElem_cons_succ, List.getElem_cons_zero, List.setIfInBounds_toArray, List.set_cons_zero, List.set_cons_succ]
          refine wpAnyH_take (i := 8) (v := (.bool ok)) rfl (by kernel_rfl) (by kernel_rfl) (by kernel_rfl) (fun _ _ _ h => h) (Or.inl ⟨by rfl, ?_⟩) (by assumption) ?_
          · intro w9 hSw
            try dsimp only at hSw
            go_simp
            all_goals try decide
            all_goals try assumption
            all_goals try omega
          try simp only [Act.put, List.getElem_toArray, List.getElem_cons_succ, List.getElem_cons_zero, List.setIfInBounds_toArray, List.set_cons_zero, List.set_cons_succ]
          refine wpAnyH_ready (rs := [10]) (by kernel_rfl) (by simp) ?_
          refine AllReadyH.cons rfl (fun K' hK => ?_) AllReadyH.nil
          rw [if_pos (by rfl)]
          simp only [List.getElem_toArray, List.getElem_cons_succ, List.getElem_cons_zero]
          have S0 := hHeld
          have nBP4 : BX ≠ BBP := fun e => by have h9 := AP3; rw [← e, S0] at h9; simp at h9
          refine wp_store_row 54 (.tmp 8) (.tmp 95) rfl BBP (evA ea ek es) rfl rfl 54 _ AP3 infoT rfl (evA_one _ _ _) ?_
          refine hK.out _ _ ((sh11 nBP4 S0)) (fun hHeld => ?_)
          clear hK K'
          try simp only [Act.put, List.getElem_toArray, List.getElem_cons_succ, List.getElem_cons_zero, List.setIfInBounds_toArray, List.set_cons_zero, List.set_cons_succ]
          have MP4 := (MP3).oth ((Kp.refl [BBP] _).row BBP (evA ea ek es) (.inl (by simp))) AP3 (by decide) (by decide) (by decide) (by decide)
          have BP4 : Below w.heap.size w (wfP3.setRow BBP (evA ea ek es)) := below_setRow BP3 LbP2.out _
          have AP4 := setRow_heap _ _ _ (evA ea ek es) _ _ AP3
          have LP4 : p ≤ (wfP3.setRow BBP (evA ea ek es)).heap.size := by have := LP3; rw [size_setRow]; omega
          generalize hzP4 : ((wfP3.setRow BBP (evA ea ek es)) : World) = wfP4 at MP4 BP4 AP4 LP4 hHeld ⊢
          clear hzP4
          refine wpAnyH_take (i := 11) (v := (.bool ok)) rfl (by kernel_rfl) (by kernel_rfl) (by kernel_rfl) (fun _ _ _ h => h) (Or.inl ⟨by rfl, ?_⟩) (by assumption) ?_
          · intro w9 hSw
            try dsimp only at hSw
            go_simp
            all_goals try decide
            all_goals try assumption
            all_goals try omega
          try simp only [Act.put, List.getElem_toArray, List.getElem_cons_succ, List.getElem_cons_zero, List.setIfInBounds_toArray, List.set_cons_zero, List.set_cons_succ]
          refine wpAnyH_done (by kernel_rfl) ?_ _
          have gX := hHeld
          clear hHeld
          go_wp2_with fail
          have Md0 := (MP4).next (Below.drew (Below.refl _ _))
          have Bd0 : Below w.heap.size w wfP4.drew := Below.drew BP4
          have Ld0 : p ≤ wfP4.drew.heap.size := LP4
          have Ed0 : wfP4.drew.heap[BBP]? = some (.cells (evA ea ek es) 54 (0, 0)) := AP4
          refine wp_region_held_drew (S := fun x1 => x1.heap[BX]? = some (.cells x.A 51 (0, 0))) (by kernel_rfl) (gX) (fun hHeld => ?_)
          refine wpAnyH_take (i := 0) (v := (pt q)) rfl (by kernel_rfl) (by kernel_rfl) (by kernel_rfl) (fun _ _ _ h => h) (Or.inl ⟨by rfl, ?_⟩) (by assumption) ?_
          · intro w9 hSw
            try dsimp only at hSw
            go_simp
            all_goals try decide
            all_goals try assumption
            all_goals try omega
          try simp only [Act.put, List.getElem_toArray, List.getElem_cons_succ, List.getElem_cons_zero, List.setIfInBounds_toArray, List.set_cons_zero, List.set_cons_succ]
          refine wpAnyH_take (i := 1) (v := (.agg x.A)) rfl (by kernel_rfl) (by kernel_rfl) (by kernel_rfl) (fun _ _ _ h => h) (Or.inl ⟨by rfl, ?_⟩) (by assumption) ?_
          · intro w9 hSw
            try dsimp only at hSw
            exact ex_load11 51 (.tmp 6) rfl _ _ rfl (loadO hSw)
          try simp only [Act.put, List.getElem_toArray, List.getElem_cons_succ, List.getElem_cons_zero, List.setIfInBounds_toArray, List.set_cons_zero, List.set_cons_succ]
          refine wpAnyH_take (i := 3) (v := (.pointer (some ⟨BX, 4, none⟩))) rfl (by kernel_rfl) (by kernel_rfl) (by kernel_rfl) (fun _ _ _ h => h) (Or.inl ⟨by rfl, ?_⟩) (by assumption) ?_
          · intro w9 hSw
            try dsimp only at hSw
            go_simp
            all_goals try decide
            all_goals try assumption
            all_goals try omega
          try simp only [Act.put, List.getElem_toArray, List.getElem_cons_succ, List.getElem_cons_zero, List.setIfInBounds_toArray, List.set_cons_zero, List.set_cons_succ]
          refine wpAnyH_take (i := 4) (v := (.int .i64 x.now)) rfl (by kernel_rfl) (by kernel_rfl) (by kernel_rfl) (fun _ _ _ h => h) (Or.inl ⟨by rfl, ?_⟩) (by assumption) ?_
          · intro w9 hSw
            try dsimp only at hSw
            obtain ⟨hc0, hc1, hc3, hc4⟩ := Ox.cells hSw
            go_simp
            all_goals try assumption
          try simp only [Act.put, List.getElem_toArray, List.getElem_cons_succ, List.getElem_cons_zero, List.setIfInBounds_toArray, List.set_cons_zero, List.set_cons_succ]
          refine wpAnyH_ready (rs := [2, 9]) (by kernel_rfl) (by simp) ?_
          refine AllReadyH.cons rfl (fun K' hK => ?_) (AllReadyH.cons rfl (fun K' hK => ?_) AllReadyH.nil)
          · rw [if_pos (by rfl)]
            simp only [List.getElem_toArray, List.getElem_cons_succ, List.getElem_cons_zero]
            have S0 := hHeld
            go_wp2_with fail
            refine Calls.mono (OF.out _) ?_
            rintro e wfD1 ⟨rfl, hbD1⟩
            try go_wp2_with fail
            have MD1 := (Md0).next hbD1
            have BD1 : Below w.heap.size w wfD1 := Below.andThen Bd0 hbD1
            have LD1 : p ≤ wfD1.heap.size := Nat.le_trans Ld0 hbD1.size
            have ED1 := blk11 hbD1 Ed0
            refine hK.out _ _ (blk11 hbD1 S0) (fun hHeld => ?_)
            clear hK K'
            try simp only [Act.put, List.getElem_toArray, List.getElem_cons_succ, List.getElem_cons_zero, List.setIfInBounds_toArray, List.set_cons_zero, List.set_cons_succ]
            clear hbD1
            refine wpAnyH_ready (rs := [5, 9]) (by kernel_rfl) (by simp) ?_
            refine AllReadyH.cons rfl (fun K' hK => ?_) (AllReadyH.cons rfl (fun K' hK => ?_) AllReadyH.nil)
            · rw [if_pos (by rfl)]
              simp only [List.getElem_toArray, List.getElem_cons_succ, List.getElem_cons_zero]
              have S0 := hHeld
              go_wp2_with fail
              refine Calls.mono (SU.out _ MD1) ?_
              rintro e wfD2 ⟨rfl, MD2, kD2⟩
              try go_wp2_with fail
              have BD2 : Below w.heap.size w wfD2 := Kp.below BD1 kD2 (BD1).size (by intro j hj; have := LP.out; simp at hj; omega)
              have LD2 : p ≤ wfD2.heap.size := Nat.le_trans LD1 kD2.size
              have ED2 := kD2.keep (MD1).d.l ED1 (by decide)
              refine hK.out _ _ (kD2.keep (MD1).d.l S0 (by decide)) (fun hHeld => ?_)
              clear hK K'
              try simp only [Act.put, List.getElem_toArray, List.getElem_cons_succ, List.getElem_cons_zero, List.setIfInBounds_toArray, List.set_cons_zero, List.set_cons_succ]
              clear kD2
              refine wpAnyH_take (i := 6) (v := (.tuple #[.agg (evA ea ek es), .bool ok])) rfl (by kernel_rfl) (by kernel_rfl) (by kernel_rfl) (fun _ _ _ h => h) (Or.inl ⟨by rfl, ?_⟩) (by assumption) ?_
              · intro w9 hSw
                try dsimp only at hSw
                go_simp
                all_goals try decide
                all_goals try assumption
                all_goals try omega
              try simp only [Act.put, List.getElem_toArray, List.getElem_cons_succ, List.getElem_cons_zero, List.setIfInBounds_toArray, List.set_cons_zero, List.set_cons_succ]
              refine wpAnyH_take (i := 7) (v := (.agg (evA ea ek es))) rfl (by kernel_rfl) (by kernel_rfl) (by kernel_rfl) (fun _ _ _ h => h) (Or.inl ⟨by rfl, ?_⟩) (by assumption) ?_
              · intro w9 hSw
                try dsimp only at hSw
                go_simp
                all_goals try decide
                all_goals try assumption
                all_goals try omega
              try simp only [Act.put, List.getElem_toArray, List.getElem_cons_succ, List.getElem_cons_zero, List.setIfInBounds_toArray, List.set_cons_zero, List.set_cons_succ]
              refine wpAnyH_take (i := 8) (v := (.bool ok)) rfl (by kernel_rfl) (by kernel_rfl) (by kernel_rfl) (fun _ _ _ h => h) (Or.inl ⟨by rfl, ?_⟩) (by assumption) ?_
              · intro w9 hSw
                try dsimp only at hSw
                go_simp
                all_goals try decide
                all_goals try assumption
                all_goals try omega
              try simp only [Act.put, List.getElem_toArray, List.getElem_cons_succ, List.getElem_cons_zero, List.setIfInBounds_toArray, List.set_cons_zero, List.set_cons_succ]
              refine wpAnyH_ready (rs := [9]) (by kernel_rfl) (by simp) ?_
              refine AllReadyH.cons rfl (fun K' hK => ?_) AllReadyH.nil
              rw [if_pos (by rfl)]
              simp only [List.getElem_toArray, List.getElem_cons_succ, List.getElem_cons_zero]
              have S0 := hHeld
              go_wp2_with fail
              refine hK.out _ _ ((blk11 ((by repeat (first | exact Below.refl _ _ | apply Below.drew | apply Below.al)) : Below wfD2.heap.size wfD2 (wfD2.alloc (.cells (evA 0 0 0) 58))) S0)) (fun hHeld => ?_)
              clear hK K'
              try simp only [Act.put, List.getElem_toArray, List.getElem_cons_succ, List.getElem_cons_zero, List.setIfInBounds_toArray, List.set_cons_zero, List.set_cons_succ]
              have MD3 := (MD2).next ((by repeat (first | exact Below.refl _ _ | apply Below.drew | apply Below.al)) : Below wfD2.heap.size wfD2 (wfD2.alloc (.cells (evA 0 0 0) 58)))
              have BD3 : Below w.heap.size w (wfD2.alloc (.cells (evA 0 0 0) 58)) := Below.andThen BD2 ((by repeat (first | exact Below.refl _ _ | apply Below.drew | apply Below.al)) : Below wfD2.heap.size wfD2 (wfD2.alloc (.cells (evA 0 0 0) 58)))
              have AD3 : (wfD2.alloc (.cells (evA 0 0 0) 58)).heap[wfD2.heap.size]? = some (.cells (evA 0 0 0) 58 (0, 0)) := at11 _ _ _ rfl
              have LD3 : p ≤ (wfD2.alloc (.cells (evA 0 0 0) 58)).heap.size := Nat.le_trans LD2 ((by repeat (first | exact Below.refl _ _ | apply Below.drew | apply Below.al)) : Below wfD2.heap.size wfD2 (wfD2.alloc (.cells (evA 0 0 0) 58))).size
              have LbD3 : Hid (w.heap.size ≤ wfD2.heap.size) := (BD2).size
              have ED3 := blk11 ((by repeat (first | exact Below.refl _ _ | apply Below.drew | apply Below.al)) : Below wfD2.heap.size wfD2 (wfD2.alloc (.cells (evA 0 0 0) 58))) ED2
              obtain ⟨BBD, hBBD3⟩ : ∃ BB, BB = wfD2.heap.size := ⟨_, rfl⟩
              rw [← hBBD3] at AD3 LbD3 ⊢
              clear hBBD3
              generalize hzD3 : ((wfD2.alloc (.cells (evA 0 0 0) 58)) : World) = wfD3 at MD3 BD3 AD3 LD3 ED3 hHeld ⊢
              clear hzD3
              refine wpAnyH_ready (rs := [10]) (by kernel_rfl) (by simp) ?_
              refine AllReadyH.cons rfl (fun K' hK => ?_) AllReadyH.nil
              rw [if_pos (by rfl)]
              simp only [List.getElem_toArray, List.getElem_cons_succ, List.getElem_cons_zero]
              have S0 := hHeld
              have nBD4 : BX ≠ BBD := fun e => by have h9 := AD3; rw [← e, S0] at h9; simp at h9
              refine wp_store_row 58 (.tmp 10) (.tmp 104) rfl BBD (evA ea ek es) rfl rfl 58 _ AD3 infoUT rfl (evA_one _ _ _) ?_
              refine hK.out _ _ ((sh11 nBD4 S0)) (fun hHeld => ?_)
              clear hK K'
              try simp only [Act.put, List.getElem_toArray, List.getElem_cons_succ, List.getElem_cons_zero, List.setIfInBounds_toArray, List.set_cons_zero, List.set_cons_succ]
              have MD4 := (MD3).oth ((Kp.refl [BBD] _).row BBD (evA ea ek es) (.inl (by simp))) AD3 (by decide) (by decide) (by decide) (by decide)
              have BD4 : Below w.heap.size w (wfD3.setRow BBD (evA ea ek es)) := below_setRow BD3 LbD3.out _
              have AD4 := setRow_heap _ _ _ (evA ea ek es) _ _ AD3
              have LD4 : p ≤ (wfD3.setRow BBD (evA ea ek es)).heap.size := by have := LD3; rw [size_setRow]; omega
              have ED4 : (wfD3.setRow BBD (evA ea ek es)).heap[BBP]? = some (.cells (evA ea ek es) 54 (0, 0)) := sh11 (fun e => by have h9 := AD3; rw [← e, ED3] at h9; simp at h9) ED3
              generalize hzD4 : ((wfD3.setRow BBD (evA ea ek es)) : World) = wfD4 at MD4 BD4 AD4 LD4 ED4 hHeld ⊢
              clear hzD4
              refine wpAnyH_take (i := 11) (v := (.bool ok)) rfl (by kernel_rfl) (by kernel_rfl) (by kernel_rfl) (fun _ _ _ h => h) (Or.inl ⟨by rfl, ?_⟩) (by assumption) ?_
              · intro w9 hSw
                try dsimp only at hSw
                go_simp
                all_goals try decide
                all_goals try assumption
                all_goals try omega
              try simp only [Act.put, List.getElem_toArray, List.getElem_cons_succ, List.getElem_cons_zero, List.setIfInBounds_toArray, List.set_cons_zero, List.set_cons_succ]
              refine wpAnyH_done (by kernel_rfl) ?_ _
              have gX := hHeld
              have M9 : Hid (Md wfD4 p p q r S' S') := MD4
              have B9 := BD4
              have L9 := LD4
              have f0 : wfD4.cell? ⟨BBP, 0, none⟩ = some (.int .u8 ea) := by rw [cell_of_row _ _ 0 _ _ _ ED4]; rfl
              have f1 : wfD4.cell? ⟨BBP, 1, none⟩ = some (.int .u8 ek) := by rw [cell_of_row _ _ 1 _ _ _ ED4]; rfl
              have f2 : wfD4.cell? ⟨BBP, 2, none⟩ = some (.int .u8 es) := by rw [cell_of_row _ _ 2 _ _ _ ED4]; rfl
              have h0 : wfD4.cell? ⟨BBD, 0, none⟩ = some (.int .u8 ea) := by rw [cell_of_row _ _ 0 _ _ _ AD4]; rfl
              have h1 : wfD4.cell? ⟨BBD, 1, none⟩ = some (.int .u8 ek) := by rw [cell_of_row _ _ 1 _ _ _ AD4]; rfl
              have h2 : wfD4.cell? ⟨BBD, 2, none⟩ = some (.int .u8 es) := by rw [cell_of_row _ _ 2 _ _ _ AD4]; rfl
              have lf := lt_of_heap ED4
              have lh := lt_of_heap AD4
              clear hHeld SP SU OF
              go_wp2_with fail
              refine (same_any ea ek es _).mono ?_
              rintro e ws ⟨rfl, hbs⟩
              have M10 : Hid (Md ws p p q r S' S') := M9.out.next hbs
              have B10 : Below w.heap.size w ws := Below.andThen B9 hbs
              have L10 : p ≤ ws.heap.size := by have := hbs.size; omega
              have gX10 := blk11 hbs gX
              clear f0 f1 f2 h0 h1 h2 lf lh hbs B9 L9 gX M9
              have T1 : Hid _ := tells_any M10.out ZN.out x.nd XO.out.2.1.1
              have T2 : Hid (∀ W, Below ws.heap.size ws W → Calls Try.prog 26 #[pt p, pt q, .int .u8 1] W fun e w' => e = .returned (.bool true) ∧ Below W.heap.size W w') := fun W hW => tells_any ((M10.out).next hW) ZN.out 1 (by decide)
              have NEW : Hid (∀ W, Below ws.heap.size ws W → ∃ S, Z0 S ∧ Md W p p q r S S) := fun W hW => ⟨_, ZN.out, (M10.out).next hW⟩
              have cB := (Ox.cells gX10).2.1
              have lB := lt_of_heap gX10
              go_wp2_with fail
              refine Calls.mono T1.out ?_
              rintro e wt ⟨rfl, bt⟩
              go_wp2_with fail
              refine Calls.mono (T2.out _ bt) ?_
              rintro e wu ⟨rfl, bu⟩
              have BU := Below.andThen bt bu
              have FB : Below w.heap.size w wu := Below.andThen B10 BU
              have FL : p ≤ wu.heap.size := by have := BU.size; have := L10; omega
              have FN := NEW.out _ BU
              clear T1 T2 NEW bt bu BU cB lB
              go_wp2_with fail
              exact ⟨⟨i + 1, by omega, by go_num, FB, FL, FN⟩, by simp [intOf]; omega⟩
            · rw [if_pos (by rfl)]
              simp only [List.getElem_toArray, List.getElem_cons_succ, List.getElem_cons_zero]
              have S0 := hHeld
              go_wp2_with fail
              refine hK.out _ _ ((blk11 ((by repeat (first | exact Below.refl _ _ | apply Below.drew | apply Below.al)) : Below wfD1.heap.size wfD1 (wfD1.alloc (.cells (evA 0 0 0) 58))) S0)) (fun hHeld => ?_)
              clear hK K'
              try simp only [Act.put, List.getElem_toArray, List.getElem_cons_succ, List.getElem_cons_zero, List.setIfInBounds_toArray, List.set_cons_zero, List.set_cons_succ]
              have MD2 := (MD1).next ((by repeat (first | exact Below.refl _ _ | apply Below.drew | apply Below.al)) : Below wfD1.heap.size wfD1 (wfD1.alloc (.cells (evA 0 0 0) 58)))
              have BD2 : Below w.heap.size w (wfD1.alloc (.cells (evA 0 0 0) 58)) := Below.andThen BD1 ((by repeat (first | exact Below.refl _ _ | apply Below.drew | apply Below.al)) : Below wfD1.heap.size wfD1 (wfD1.alloc (.cells (evA 0 0 0) 58)))
              have AD2 : (wfD1.alloc (.cells (evA 0 0 0) 58)).heap[wfD1.heap.size]? = some (.cells (evA 0 0 0) 58 (0, 0)) := at11 _ _ _ rfl
              have LD2 : p ≤ (wfD1.alloc (.cells (evA 0 0 0) 58)).heap.size := Nat.le_trans LD1 ((by repeat (first | exact Below.refl _ _ | apply Below.drew | apply Below.al)) : Below wfD1.heap.size wfD1 (wfD1.alloc (.cells (evA 0 0 0) 58))).size
              have LbD2 : Hid (w.heap.size ≤ wfD1.heap.size) := (BD1).size
              have ED2 := blk11 ((by repeat (first | exact Below.refl _ _ | apply Below.drew | apply Below.al)) : Below wfD1.heap.size wfD1 (wfD1.alloc (.cells (evA 0 0 0) 58))) ED1
              obtain ⟨BBD, hBBD2⟩ : ∃ BB, BB = wfD1.heap.size := ⟨_, rfl⟩
              rw [← hBBD2] at AD2 LbD2 ⊢
              clear hBBD2
              generalize hzD2 : ((wfD1.alloc (.cells (evA 0 0 0) 58)) : World) = wfD2 at MD2 BD2 AD2 LD2 ED2 hHeld ⊢
              clear hzD2
              refine wpAnyH_ready (rs := [5]) (by kernel_rfl) (by simp) ?_
              refine AllReadyH.cons rfl (fun K' hK => ?_) AllReadyH.nil
              rw [if_pos (by rfl)]
              simp only [List.getElem_toArray, List.getElem_cons_succ, List.getElem_cons_zero]
              have S0 := hHeld
              go_wp2_with fail
              refine Calls.mono (SU.out _ MD2) ?_
              rintro e wfD3 ⟨rfl, MD3, kD3⟩
              try go_wp2_with fail
              have BD3 : Below w.heap.size w wfD3 := Kp.below BD2 kD3 (BD2).size (by intro j hj; have := LP.out; simp at hj; omega)
              have LD3 : p ≤ wfD3.heap.size := Nat.le_trans LD2 kD3.size
              have AD3 := kD3.keep (MD2).d.l AD2 (by decide)
              have ED3 := kD3.keep (MD2).d.l ED2 (by decide)
              refine hK.out _ _ (kD3.keep (MD2).d.l S0 (by decide)) (fun hHeld => ?_)
              clear hK K'
              try simp only [Act.put, List.getElem_toArray, List.getElem_cons_succ, List.getElem_cons_zero, List.setIfInBounds_toArray, List.set_cons_zero, List.set_cons_succ]
              clear kD3
              refine wpAnyH_take (i := 6) (v := (.tuple #[.agg (evA ea ek es), .bool ok])) rfl (by kernel_rfl) (by kernel_rfl) (by kernel_rfl) (fun _ _ _ h => h) (Or.inl ⟨by rfl, ?_⟩) (by assumption) ?_
              · intro w9 hSw
                try dsimp only at hSw
                go_simp
                all_goals try decide
                all_goals try assumption
                all_goals try omega
              try simp only [Act.put, List.getElem_toArray, List.getElem_cons_succ, List.getElem_cons_zero, List.setIfInBounds_toArray, List.set_cons_zero, List.set_cons_succ]
              refine wpAnyH_take (i := 7) (v := (.agg (evA ea ek es))) rfl (by kernel_rfl) (by kernel_rfl) (by kernel_rfl) (fun _ _ _ h => h) (Or.inl ⟨by rfl, ?_⟩) (by assumption) ?_
              · intro w9 hSw
                try dsimp only at hSw
                go_simp
                all_goals try decide
                all_goals try assumption
                all_goals try omega
              try simp only [Act.put, List.getElem_toArray, List.getElem_cons_succ, List.getElem_cons_zero, List.setIfInBounds_toArray, List.set_cons_zero, List.set_cons_succ]
              refine wpAnyH_take (i := 8) (v := (.bool ok)) rfl (by kernel_rfl) (by kernel_rfl) (by kernel_rfl) (fun _ _ _ h => h) (Or.inl ⟨by rfl, ?_⟩) (by assumption) ?_
              · intro w9 hSw
                try dsimp only at hSw
                go_simp
                all_goals try decide
                all_goals try assumption
                all_goals try omega
              try simp only [Act.put, List.getElem_toArray, List.getElem_cons_succ, List.getElem_cons_zero, List.setIfInBounds_toArray, List.set_cons_zero, List.set_cons_succ]
              refine wpAnyH_ready (rs := [10]) (by kernel_rfl) (by simp) ?_
              refine AllReadyH.cons rfl (fun K' hK => ?_) AllReadyH.nil
              rw [if_pos (by rfl)]
              simp only [List.getElem_toArray, List.getElem_cons_succ, List.getElem_cons_zero]
              have S0 := hHeld
              have nBD4 : BX ≠ BBD := fun e => by have h9 := AD3; rw [← e, S0] at h9; simp at h9
              refine wp_store_row 58 (.tmp 10) (.tmp 104) rfl BBD (evA ea ek es) rfl rfl 58 _ AD3 infoUT rfl (evA_one _ _ _) ?_
              refine hK.out _ _ ((sh11 nBD4 S0)) (fun hHeld => ?_)
              clear hK K'
              try simp only [Act.put, List.getElem_toArray, List.getElem_cons_succ, List.getElem_cons_zero, List.setIfInBounds_toArray, List.set_cons_zero, List.set_cons_succ]
              have MD4 := (MD3).oth ((Kp.refl [BBD] _).row BBD (evA ea ek es) (.inl (by simp))) AD3 (by decide) (by decide) (by decide) (by decide)
              have BD4 : Below w.heap.size w (wfD3.setRow BBD (evA ea ek es)) := below_setRow BD3 LbD2.out _
              have AD4 := setRow_heap _ _ _ (evA ea ek es) _ _ AD3
              have LD4 : p ≤ (wfD3.setRow BBD (evA ea ek es)).heap.size := by have := LD3; rw [size_setRow]; omega
              have ED4 : (wfD3.setRow BBD (evA ea ek es)).heap[BBP]? = some (.cells (evA ea ek es) 54 (0, 0)) := sh11 (fun e => by have h9 := AD3; rw [← e, ED3] at h9; simp at h9) ED3
              generalize hzD4 : ((wfD3.setRow BBD (evA ea ek es)) : World) = wfD4 at MD4 BD4 AD4 LD4 ED4 hHeld ⊢
              clear hzD4
              refine wpAnyH_take (i := 11) (v := (.bool ok)) rfl (by kernel_rfl) (by kernel_rfl) (by kernel_rfl) (fun _ _ _ h => h) (Or.inl ⟨by rfl, ?_⟩) (by assumption) ?_
              · intro w9 hSw
                try dsimp only at hSw
                go_simp
                all_goals try decide
                all_goals try assumption
                all_goals try omega
              try simp only [Act.put, List.getElem_toArray, List.getElem_cons_succ, List.getElem_cons_zero, List.setIfInBounds_toArray, List.set_cons_zero, List.set_cons_succ]
              refine wpAnyH_done (by kernel_rfl) ?_ _
              have gX := hHeld
              have M9 : Hid (Md wfD4 p p q r S' S') := MD4
              have B9 := BD4
              have L9 := LD4
              have f0 : wfD4.cell? ⟨BBP, 0, none⟩ = some (.int .u8 ea) := by rw [cell_of_row _ _ 0 _ _ _ ED4]; rfl
              have f1 : wfD4.cell? ⟨BBP, 1, none⟩ = some (.int .u8 ek) := by rw [cell_of_row _ _ 1 _ _ _ ED4]; rfl
              have f2 : wfD4.cell? ⟨BBP, 2, none⟩ = some (.int .u8 es) := by rw [cell_of_row _ _ 2 _ _ _ ED4]; rfl
              have h0 : wfD4.cell? ⟨BBD, 0, none⟩ = some (.int .u8 ea) := by rw [cell_of_row _ _ 0 _ _ _ AD4]; rfl
              have h1 : wfD4.cell? ⟨BBD, 1, none⟩ = some (.int .u8 ek) := by rw [cell_of_row _ _ 1 _ _ _ AD4]; rfl
              have h2 : wfD4.cell? ⟨BBD, 2, none⟩ = some (.int .u8 es) := by rw [cell_of_row _ _ 2 _ _ _ AD4]; rfl
              have lf := lt_of_heap ED4
              have lh := lt_of_heap AD4
              clear hHeld SP SU OF
              go_wp2_with fail
              refine (same_any ea ek es _).mono ?_
              rintro e ws ⟨rfl, hbs⟩
              have M10 : Hid (Md ws p p q r S' S') := M9.out.next hbs
              have B10 : Below w.heap.size w ws := Below.andThen B9 hbs
              have L10 : p ≤ ws.heap.size := by have := hbs.size; omega
              have gX10 := blk11 hbs gX
              clear f0 f1 f2 h0 h1 h2 lf lh hbs B9 L9 gX M9
              have T1 : Hid _ := tells_any M10.out ZN.out x.nd XO.out.2.1.1
              have T2 : Hid (∀ W, Below ws.heap.size ws W → Calls Try.prog 26 #[pt p, pt q, .int .u8 1] W fun e w' => e = .returned (.bool true) ∧ Below W.heap.size W w') := fun W hW => tells_any ((M10.out).next hW) ZN.out 1 (by decide)
              have NEW : Hid (∀ W, Below ws.heap.size ws W → ∃ S, Z0 S ∧ Md W p p q r S S) := fun W hW => ⟨_, ZN.out, (M10.out).next hW⟩
              have cB := (Ox.cells gX10).2.1
              have lB := lt_of_heap gX10
              go_wp2_with fail
              refine Calls.mono T1.out ?_
              rintro e wt ⟨rfl, bt⟩
              go_wp2_with fail
              refine Calls.mono (T2.out _ bt) ?_
              rintro e wu ⟨rfl, bu⟩
              have BU := Below.andThen bt bu
              have FB : Below w.heap.size w wu := Below.andThen B10 BU
              have FL : p ≤ wu.heap.size := by have := BU.size; have := L10; omega
              have FN := NEW.out _ BU
              clear T1 T2 NEW bt bu BU cB lB
              go_wp2_with fail
              exact ⟨⟨i + 1, by omega, by go_num, FB, FL, FN⟩, by simp [intOf]; omega⟩
          · rw [if_pos (by rfl)]
            simp only [List.getElem_toArray, List.getElem_cons_succ, List.getElem_cons_zero]
            have S0 := hHeld
            go_wp2_with fail
            refine hK.out _ _ ((blk11 ((al_drew _ _) : Below wfP4.heap.size wfP4.drew ((wfP4.alloc (.cells (evA 0 0 0) 58)).drew)) S0)) (fun hHeld => ?_)
            clear hK K'
            try simp only [Act.put, List.getElem_toArray, List.getElem_cons_succ, List.getElem_cons_zero, List.setIfInBounds_toArray, List.set_cons_zero, List.set_cons_succ]
            have MD1 := (Md0).next ((al_drew _ _) : Below wfP4.heap.size wfP4.drew ((wfP4.alloc (.cells (evA 0 0 0) 58)).drew))
            have BD1 : Below w.heap.size w ((wfP4.alloc (.cells (evA 0 0 0) 58)).drew) := Below.andThen Bd0 ((al_drew _ _) : Below wfP4.heap.size wfP4.drew ((wfP4.alloc (.cells (evA 0 0 0) 58)).drew))
            have AD1 : ((wfP4.alloc (.cells (evA 0 0 0) 58)).drew).heap[wfP4.heap.size]? = some (.cells (evA 0 0 0) 58 (0, 0)) := at11 _ _ _ rfl
            have LD1 : p ≤ ((wfP4.alloc (.cells (evA 0 0 0) 58)).drew).heap.size := Nat.le_trans Ld0 ((al_drew _ _) : Below wfP4.heap.size wfP4.drew ((wfP4.alloc (.cells (evA 0 0 0) 58)).drew)).size
            have LbD1 : Hid (w.heap.size ≤ wfP4.heap.size) := (Bd0).size
            have ED1 := blk11 ((al_drew _ _) : Below wfP4.heap.size wfP4.drew ((wfP4.alloc (.cells (evA 0 0 0) 58)).drew)) Ed0
            obtain ⟨BBD, hBBD1⟩ : ∃ BB, BB = wfP4.heap.size := ⟨_, rfl⟩
            rw [← hBBD1] at AD1 LbD1 ⊢
            clear hBBD1
            generalize hzD1 : (((wfP4.alloc (.cells (evA 0 0 0) 58)).drew) : World) = wfD1 at MD1 BD1 AD1 LD1 ED1 hHeld ⊢
            clear hzD1
            refine wpAnyH_ready (rs := [2]) (by kernel_rfl) (by simp) ?_
            refine AllReadyH.cons rfl (fun K' hK => ?_) AllReadyH.nil
            rw [if_pos (by rfl)]
            simp only [List.getElem_toArray, List.getElem_cons_succ, List.getElem_cons_zero]
            have S0 := hHeld
            go_wp2_with fail
            refine Calls.mono (OF.out _) ?_
            rintro e wfD2 ⟨rfl, hbD2⟩
            try go_wp2_with fail
            have MD2 := (MD1).next hbD2
            have BD2 : Below w.heap.size w wfD2 := Below.andThen BD1 hbD2
            have LD2 : p ≤ wfD2.heap.size := Nat.le_trans LD1 hbD2.size
            have AD2 := blk11 hbD2 AD1
            have ED2 := blk11 hbD2 ED1
            refine hK.out _ _ (blk11 hbD2 S0) (fun hHeld => ?_)
            clear hK K'
            try simp only [Act.put, List.getElem_toArray, List.getElem_cons_succ, List.getElem_cons_zero, List.setIfInBounds_toArray, List.set_cons_zero, List.set_cons_succ]
            clear hbD2
            refine wpAnyH_ready (rs := [5]) (by kernel_rfl) (by simp) ?_
            refine AllReadyH.cons rfl (fun K' hK => ?_) AllReadyH.nil
            rw [if_pos (by rfl)]
            simp only [List.getElem_toArray, List.getElem_cons_succ, List.getElem_cons_zero]
            have S0 := hHeld
            go_wp2_with fail
            refine Calls.mono (SU.out _ MD2) ?_
            rintro e wfD3 ⟨rfl, MD3, kD3⟩
            try go_wp2_with fail
            have BD3 : Below w.heap.size w wfD3 := Kp.below BD2 kD3 (BD2).size (by intro j hj; have := LP.out; simp at hj; omega)
            have LD3 : p ≤ wfD3.heap.size := Nat.le_trans LD2 kD3.size
            have AD3 := kD3.keep (MD2).d.l AD2 (by decide)
            have ED3 := kD3.keep (MD2).d.l ED2 (by decide)
            refine hK.out _ _ (kD3.keep (MD2).d.l S0 (by decide)) (fun hHeld => ?_)
            clear hK K'
            try simp only [Act.put, List.getElem_toArray, List.getElem_cons_succ, List.getElem_cons_zero, List.setIfInBounds_toArray, List.set_cons_zero, List.set_cons_succ]
            clear kD3
            refine wpAnyH_take (i := 6) (v := (.tuple #[.agg (evA ea ek es), .bool ok])) rfl (by kernel_rfl) (by kernel_rfl) (by kernel_rfl) (fun _ _ _ h => h) (Or.inl ⟨by rfl, ?_⟩) (by assumption) ?_
            · intro w9 hSw
              try dsimp only at hSw
              go_simp
              all_goals try decide
              all_goals try assumption
              all_goals try omega
            try simp only [Act.put, List.getElem_toArray, List.getElem_cons_succ, List.getElem_cons_zero, List.setIfInBounds_toArray, List.set_cons_zero, List.set_cons_succ]
            refine wpAnyH_take (i := 7) (v := (.agg (evA ea ek es))) rfl (by kernel_rfl) (by kernel_rfl) (by kernel_rfl) (fun _ _ _ h => h) (Or.inl ⟨by rfl, ?_⟩) (by assumption) ?_
            · intro w9 hSw
              try dsimp only at hSw
              go_simp
              all_goals try decide
              all_goals try assumption
              all_goals try omega
            try simp only [Act.put, List.getElem_toArray, List.getElem_cons_succ, List.getElem_cons_zero, List.setIfInBounds_toArray, List.set_cons_zero, List.set_cons_succ]
            refine wpAnyH_take (i := 8) (v := (.bool ok)) rfl (by kernel_rfl) (by kernel_rfl) (by kernel_rfl) (fun _ _ _ h => h) (Or.inl ⟨by rfl, ?_⟩) (by assumption) ?_
            · intro w9 hSw
              try dsimp only at hSw
              go_simp
              all_goals try decide
              all_goals try assumption
              all_goals try omega
            try simp only [Act.put, List.getElem_toArray, List.getElem_cons_succ, List.getElem_cons_zero, List.setIfInBounds_toArray, List.set_cons_zero, List.set_cons_succ]
            refine wpAnyH_ready (rs := [10]) (by kernel_rfl) (by simp) ?_
            refine AllReadyH.cons rfl (fun K' hK => ?_) AllReadyH.nil
            rw [if_pos (by rfl)]
            simp only [List.getElem_toArray, List.getElem_cons_succ, List.getElem_cons_zero]
            have S0 := hHeld
            have nBD4 : BX ≠ BBD := fun e => by have h9 := AD3; rw [← e, S0] at h9; simp at h9
            refine wp_store_row 58 (.tmp 10) (.tmp 104) rfl BBD (evA ea ek es) rfl rfl 58 _ AD3 infoUT rfl (evA_one _ _ _) ?_
            refine hK.out _ _ ((sh11 nBD4 S0)) (fun hHeld => ?_)
            clear hK K'
            try simp only [Act.put, List.getElem_toArray, List.getElem_cons_succ, List.getElem_cons_zero, List.setIfInBounds_toArray, List.set_cons_zero, List.set_cons_succ]
            have MD4 := (MD3).oth ((Kp.refl [BBD] _).row BBD (evA ea ek es) (.inl (by simp))) AD3 (by decide) (by decide) (by decide) (by decide)
            have BD4 : Below w.heap.size w (wfD3.setRow BBD (evA ea ek es)) := below_setRow BD3 LbD1.out _
            have AD4 := setRow_heap _ _ _ (evA ea ek es) _ _ AD3
            have LD4 : p ≤ (wfD3.setRow BBD (evA ea ek es)).heap.size := by have := LD3; rw [size_setRow]; omega
            have ED4 : (wfD3.setRow BBD (evA ea ek es)).heap[BBP]? = some (.cells (evA ea ek es) 54 (0, 0)) := sh11 (fun e => by have h9 := AD3; rw [← e, ED3] at h9; simp at h9) ED3
            generalize hzD4 : ((wfD3.setRow BBD (evA ea ek es)) : World) = wfD4 at MD4 BD4 AD4 LD4 ED4 hHeld ⊢
            clear hzD4
            refine wpAnyH_take (i := 11) (v := (.bool ok)) rfl (by kernel_rfl) (by kernel_rfl) (by kernel_rfl) (fun _ _ _ h => h) (Or.inl ⟨by rfl, ?_⟩) (by assumption) ?_
            · intro w9 hSw
              try dsimp only at hSw
              go_simp
              all_goals try decide
              all_goals try assumption
              all_goals try omega
            try simp only [Act.put, List.getElem_toArray, List.getElem_cons_succ, List.getElem_cons_zero, List.setIfInBounds_toArray, List.set_cons_zero, List.set_cons_succ]
            refine wpAnyH_done (by kernel_rfl) ?_ _
            have gX := hHeld
            have M9 : Hid (Md wfD4 p p q r S' S') := MD4
            have B9 := BD4
            have L9 := LD4
            have f0 : wfD4.cell? ⟨BBP, 0, none⟩ = some (.int .u8 ea) := by rw [cell_of_row _ _ 0 _ _ _ ED4]; rfl
            have f1 : wfD4.cell? ⟨BBP, 1, none⟩ = some (.int .u8 ek) := by rw [cell_of_row _ _ 1 _ _ _ ED4]; rfl
            have f2 : wfD4.cell? ⟨BBP, 2, none⟩ = some (.int .u8 es) := by rw [cell_of_row _ _ 2 _ _ _ ED4]; rfl
            have h0 : wfD4.cell? ⟨BBD, 0, none⟩ = some (.int .u8 ea) := by rw [cell_of_row _ _ 0 _ _ _ AD4]; rfl
            have h1 : wfD4.cell? ⟨BBD, 1, none⟩ = some (.int .u8 ek) := by rw [cell_of_row _ _ 1 _ _ _ AD4]; rfl
            have h2 : wfD4.cell? ⟨BBD, 2, none⟩ = some (.int .u8 es) := by rw [cell_of_row _ _ 2 _ _ _ AD4]; rfl
            have lf := lt_of_heap ED4
            have lh := lt_of_heap AD4
            clear hHeld SP SU OF
            go_wp2_with fail
            refine (same_any ea ek es _).mono ?_
            rintro e ws ⟨rfl, hbs⟩
            have M10 : Hid (Md ws p p q r S' S') := M9.out.next hbs
            have B10 : Below w.heap.size w ws := Below.andThen B9 hbs
            have L10 : p ≤ ws.heap.size := by have := hbs.size; omega
            have gX10 := blk11 hbs gX
            clear f0 f1 f2 h0 h1 h2 lf lh hbs B9 L9 gX M9
            have T1 : Hid _ := tells_any M10.out ZN.out x.nd XO.out.2.1.1
            have T2 : Hid (∀ W, Below ws.heap.size ws W → Calls Try.prog 26 #[pt p, pt q, .int .u8 1] W fun e w' => e = .returned (.bool true) ∧ Below W.heap.size W w') := fun W hW => tells_any ((M10.out).next hW) ZN.out 1 (by decide)
            have NEW : Hid (∀ W, Below ws.heap.size ws W → ∃ S, Z0 S ∧ Md W p p q r S S) := fun W hW => ⟨_, ZN.out, (M10.out).next hW⟩
            have cB := (Ox.cells gX10).2.1
            have lB := lt_of_heap gX10
            go_wp2_with fail
            refine Calls.mono T1.out ?_
            rintro e wt ⟨rfl, bt⟩
            go_wp2_with fail
            refine Calls.mono (T2.out _ bt) ?_
            rintro e wu ⟨rfl, bu⟩
            have BU := Below.andThen bt bu
            have FB : Below w.heap.size w wu := Below.andThen B10 BU
            have FL : p ≤ wu.heap.size := by have := BU.size; have := L10; omega
            have FN := NEW.out _ BU
            clear T1 T2 NEW bt bu BU cB lB
            go_wp2_with fail
            exact ⟨⟨i + 1, by omega, by go_num, FB, FL, FN⟩, by simp [intOf]; omega⟩
      · rw [if_pos (by rfl)]
        simp only [List.getElem_toArray, List.getElem_cons_succ, List.getElem_cons_zero]
        have S0 := hHeld
        go_wp2_with fail
        refine hK.out _ _ ((blk11 ((al_drew _ _) : Below y.heap.size y.drew ((y.alloc (.cells (evA 0 0 0) 54)).drew)) S0)) (fun hHeld => ?_)
        clear hK K'
        try simp only [Act.put, List.getElem_toArray, List.getElem_cons_succ, List.getElem_cons_zero, List.setIfInBounds_toArray, List.set_cons_zero, List.set_cons_succ]
        have MP1 := (My0).next ((al_drew _ _) : Below y.heap.size y.drew ((y.alloc (.cells (evA 0 0 0) 54)).drew))
        have BP1 : Below w.heap.size w ((y.alloc (.cells (evA 0 0 0) 54)).drew) := Below.andThen By0 ((al_drew _ _) : Below y.heap.size y.drew ((y.alloc (.cells (evA 0 0 0) 54)).drew))
        have AP1 : ((y.alloc (.cells (evA 0 0 0) 54)).drew).heap[y.heap.size]? = some (.cells (evA 0 0 0) 54 (0, 0)) := at11 _ _ _ rfl
        have LP1 : p ≤ ((y.alloc (.cells (evA 0 0 0) 54)).drew).heap.size := Nat.le_trans Ly0 ((al_drew _ _) : Below y.heap.size y.drew ((y.alloc (.cells (evA 0 0 0) 54)).drew)).size
        have LbP1 : Hid (w.heap.size ≤ y.heap.size) := (By0).size
        obtain ⟨BBP, hBBP1⟩ : ∃ BB, BB = y.heap.size := ⟨_, rfl⟩
        rw [← hBBP1] at AP1 LbP1 ⊢
        clear hBBP1
        generalize hzP1 : (((y.alloc (.cells (evA 0 0 0) 54)).drew) : World) = wfP1 at MP1 BP1 AP1 LP1 hHeld ⊢
        clear hzP1
        refine wpAnyH_ready (rs := [2]) (by kernel_rfl) (by simp) ?_
        refine AllReadyH.cons rfl (fun K' hK => ?_) AllReadyH.nil
        rw [if_pos (by rfl)]
        simp only [List.getElem_toArray, List.getElem_cons_succ, List.getElem_cons_zero]
        have S0 := hHeld
        go_wp2_with fail
        refine Calls.mono (OF.out _) ?_
        rintro e wfP2 ⟨rfl, hbP2⟩
        try go_wp2_with fail
        have MP2 := (MP1).next hbP2
        have BP2 : Below w.heap.size w wfP2 := Below.andThen BP1 hbP2
        have LP2 : p ≤ wfP2.heap.size := Nat.le_trans LP1 hbP2.size
        have AP2 := blk11 hbP2 AP1
        refine hK.out _ _ (blk11 hbP2 S0) (fun hHeld => ?_)
        clear hK K'
        try simp only [Act.put, List.getElem_toArray, List.getElem_cons_succ, List.getElem_cons_zero, List.setIfInBounds_toArray, List.set_cons_zero, List.set_cons_succ]
        clear hbP2
        refine wpAnyH_ready (rs := [5]) (by kernel_rfl) (by simp) ?_
        refine AllReadyH.cons rfl (fun K' hK => ?_) AllReadyH.nil
        rw [if_pos (by rfl)]
        simp only [List.getElem_toArray, List.getElem_cons_succ, List.getElem_cons_zero]
        have S0 := hHeld
        go_wp2_with fail
        refine Calls.mono (SP.out _ MP2) ?_
        rintro e wfP3 ⟨rfl, MP3, kP3⟩
        try go_wp2_with fail
        have BP3 : Below w.heap.size w wfP3 := Kt.up BP2 kP3 LP.out.1 (BP2).size
        have LP3 : p ≤ wfP3.heap.size := Nat.le_trans LP2 kP3.size
        have AP3 := kP3.typ _ _ _ _ AP2 (by decide) (by decide)
        refine hK.out _ _ (kP3.typ _ _ _ _ S0 (by decide) (by decide)) (fun hHeld => ?_)
        clear hK K'
        try simp only [Act.put, List.getElem_toArray, List.getElem_cons_succ, List.getElem_cons_zero, List.setIfInBounds_toArray, List.set_cons_zero, List.set_cons_succ]
        clear kP3
        refine wpAnyH_take (i := 6) (v := (.tuple #[.agg (evA ea ek es), .bool ok])) rfl (by kernel_rfl) (by kernel_rfl) (by kernel_rfl) (fun _ _ _ h => h) (Or.inl ⟨by rfl, ?_⟩) (by assumption) ?_
        · intro w9 hSw
          try dsimp only at hSw
          go_simp
          all_goals try decide
          all_goals try assumption
          all_goals try omega
        try simp only [Act.put, List.getElem_toArray, List.getElem_cons_succ, List.getElem_cons_zero, List.setIfInBounds_toArray, List.set_cons_zero, List.set_cons_succ]
        refine wpAnyH_take (i := 7) (v := (.agg (evA ea ek es))) rfl (by kernel_rfl) (by kernel_rfl) (by kernel_rfl) (fun _ _ _ h => h) (Or.inl ⟨by rfl, ?_⟩) (by assumption) ?_
        · intro w9 hSw
          try dsimp only at hSw
          go_simp
          all_goals try decide
          all_goals try assumption
          all_goals try omega
        try simp only [Act.put, List.getElem_toArray, List.getElem_cons_succ, List.getElem_cons_zero, List.setIfInBounds_toArray, List.set_cons_zero, List.set_cons_succ]
        refine wpAnyH_take (i := 8) (v := (.bool ok)) rfl (by kernel_rfl) (by kernel_rfl) (by kernel_rfl) (fun _ _ _ h => h) (Or.inl ⟨by rfl, ?_⟩) (by assumption) ?_
        · intro w9 hSw
          try dsimp only at hSw
          go_simp
          all_goals try decide
          all_goals try assumption
          all_goals try omega
        try simp only [Act.put, List.getElem_toArray, List.getElem_cons_succ, List.getElem_cons_zero, List.setIfInBounds_toArray, List.set_cons_zero, List.set_cons_succ]
        refine wpAnyH_ready (rs := [10]) (by kernel_rfl) (by simp) ?_
        refine AllReadyH.cons rfl (fun K' hK => ?_) AllReadyH.nil
        rw [if_pos (by rfl)]
        simp only [List.getElem_toArray, List.getElem_cons_succ, List.getElem_cons_zero]
        have S0 := hHeld
        have nBP4 : BX ≠ BBP := fun e => by have h9 := AP3; rw [← e, S0] at h9; simp at h9
        refine wp_store_row 54 (.tmp 8) (.tmp 95) rfl BBP (evA ea ek es) rfl rfl 54 _ AP3 infoT rfl (evA_one _ _ _) ?_
        refine hK.out _ _ ((sh11 nBP4 S0)) (fun hHeld => ?_)
        clear hK K'
        try simp only [Act.put, List.getElem_toArray, List.getElem_cons_succ, List.getElem_cons_zero, List.setIfInBounds_toArray, List.set_cons_zero, List.set_cons_succ]
        have MP4 := (MP3).oth ((Kp.refl [BBP] _).row BBP (evA ea ek es) (.inl (by simp))) AP3 (by decide) (by decide) (by decide) (by decide)
        have BP4 : Below w.heap.size w (wfP3.setRow BBP (evA ea ek es)) := below_setRow BP3 LbP1.out _
        have AP4 := setRow_heap _ _ _ (evA ea ek es) _ _ AP3
        have LP4 : p ≤ (wfP3.setRow BBP (evA ea ek es)).heap.size := by have := LP3; rw [size_setRow]; omega
        generalize hzP4 : ((wfP3.setRow BBP (evA ea ek es)) : World) = wfP4 at MP4 BP4 AP4 LP4 hHeld ⊢
        clear hzP4
        refine wpAnyH_take (i := 11) (v := (.bool ok)) rfl (by kernel_rfl) (by kernel_rfl) (by kernel_rfl) (fun _ _ _ h => h) (Or.inl ⟨by rfl, ?_⟩) (by assumption) ?_
        · intro w9 hSw
          try dsimp only at hSw
          go_simp
          all_goals try decide
          all_goals try assumption
          all_goals try omega
        try simp only [Act.put, List.getElem_toArray, List.getElem_cons_succ, List.getElem_cons_zero, List.setIfInBounds_toArray, List.set_cons_zero, List.set_cons_succ]
        refine wpAnyH_done (by kernel_rfl) ?_ _
        have gX := hHeld
        clear hHeld
        go_wp2_with fail
        have Md0 := (MP4).next (Below.drew (Below.refl _ _))
        have Bd0 : Below w.heap.size w wfP4.drew := Below.drew BP4
        have Ld0 : p ≤ wfP4.drew.heap.size := LP4
        have Ed0 : wfP4.drew.heap[BBP]? = some (.cells (evA ea ek es) 54 (0, 0)) := AP4
        refine wp_region_held_drew (S := fun x1 => x1.heap[BX]? = some (.cells x.A 51 (0, 0))) (by kernel_rfl) (gX) (fun hHeld => ?_)
        refine wpAnyH_take (i := 0) (v := (pt q)) rfl (by kernel_rfl) (by kernel_rfl) (by kernel_rfl) (fun _ _ _ h => h) (Or.inl ⟨by rfl, ?_⟩) (by assumption) ?_
        · intro w9 hSw
          try dsimp only at hSw
          go_simp
          all_goals try decide
          all_goals try assumption
          all_goals try omega
        try simp only [Act.put, List.getElem_toArray, List.getElem_cons_succ, List.getElem_cons_zero, List.setIfInBounds_toArray, List.set_cons_zero, List.set_cons_succ]
        refine wpAnyH_take (i := 1) (v := (.agg x.A)) rfl (by kernel_rfl) (by kernel_rfl) (by kernel_rfl) (fun _ _ _ h => h) (Or.inl ⟨by rfl, ?_⟩) (by assumption) ?_
        · intro w9 hSw
          try dsimp only at hSw
          exact ex_load11 51 (.tmp 6) rfl _ _ rfl (loadO hSw)
        try simp only [Act.put, List.getElem_toArray, List.getElem_cons_succ, List.getElem_cons_zero, List.setIfInBounds_toArray, List.set_cons_zero, List.set_cons_succ]
        refine wpAnyH_take (i := 3) (v := (.pointer (some ⟨BX, 4, none⟩))) rfl (by kernel_rfl) (by kernel_rfl) (by kernel_rfl) (fun _ _ _ h => h) (Or.inl ⟨by rfl, ?_⟩) (by assumption) ?_
        · intro w9 hSw
          try dsimp only at hSw
          go_simp
          all_goals try decide
          all_goals try assumption
          all_goals try omega
        try simp only [Act.put, List.getElem_toArray, List.getElem_cons_succ, List.getElem_cons_zero, List.setIfInBounds_toArray, List.set_cons_zero, List.set_cons_succ]
        refine wpAnyH_take (i := 4) (v := (.int .i64 x.now)) rfl (by kernel_rfl) (by kernel_rfl) (by kernel_rfl) (fun _ _ _ h => h) (Or.inl ⟨by rfl, ?_⟩) (by assumption) ?_
        · intro w9 hSw
          try dsimp only at hSw
          obtain ⟨hc0, hc1, hc3, hc4⟩ := Ox.cells hSw
          go_simp
          all_goals try assumption
        try simp only [Act.put, List.getElem_toArray, List.getElem_cons_succ, List.getElem_cons_zero, List.setIfInBounds_toArray, List.set_cons_zero, List.set_cons_succ]
        refine wpAnyH_ready (rs := [2, 9]) (by kernel_rfl) (by simp) ?_
        refine AllReadyH.cons rfl (fun K' hK => ?_) (AllReadyH.cons rfl (fun K' hK => ?_) AllReadyH.nil)
        · rw [if_pos (by rfl)]
          simp only [List.getElem_toArray, List.getElem_cons_succ, List.getElem_cons_zero]
          have S0 := hHeld
          go_wp2_with fail
          refine Calls.mono (OF.out _) ?_
          rintro e wfD1 ⟨rfl, hbD1⟩
          try go_wp2_with fail
          have MD1 := (Md0).next hbD1
          have BD1 : Below w.heap.size w wfD1 := Below.andThen Bd0 hbD1
          have LD1 : p ≤ wfD1.heap.size := Nat.le_trans Ld0 hbD1.size
          have ED1 := blk11 hbD1 Ed0
          refine hK.out _ _ (blk11 hbD1 S0) (fun hHeld => ?_)
          clear hK K'
          try simp only [Act.put, List.getElem_toArray, List.getElem_cons_succ, List.getElem_cons_zero, List.setIfInBounds_toArray, List.set_cons_zero, List.set_cons_succ]
          clear hbD1
          refine wpAnyH_ready (rs := [5, 9]) (by kernel_rfl) (by simp) ?_
          refine AllReadyH.cons rfl (fun K' hK => ?_) (AllReadyH.cons rfl (fun K' hK => ?_) AllReadyH.nil)
          · rw [if_pos (by rfl)]
            simp only [List.getElem_toArray, List.getElem_cons_succ, List.getElem_cons_zero]
            have S0 := hHeld
            go_wp2_with fail
            refine Calls.mono (SU.out _ MD1) ?_
            rintro e wfD2 ⟨rfl, MD2, kD2⟩
            try go_wp2_with fail
            have BD2 : Below w.heap.size w wfD2 := Kp.below BD1 kD2 (BD1).size (by intro j hj; have := LP.out; simp at hj; omega)
            have LD2 : p ≤ wfD2.heap.size := Nat.le_trans LD1 kD2.size
            have ED2 := kD2.keep (MD1).d.l ED1 (by decide)
            refine hK.out _ _ (kD2.keep (MD1).d.l S0 (by decide)) (fun hHeld => ?_)
            clear hK K'
            try simp only [Act.put, List.getElem_toArray, List.getElem_cons_succ, List.getElem_cons_zero, List.setIfInBounds_toArray, List.set_cons_zero, List.set_cons_succ]
            clear kD2
            refine wpAnyH_take (i := 6) (v := (.tuple #[.agg (evA ea ek es), .bool ok])) rfl (by kernel_rfl) (by kernel_rfl) (by kernel_rfl) (fun _ _ _ h => h) (Or.inl ⟨by rfl, ?_⟩) (by assumption) ?_
            · intro w9 hSw
              try dsimp only at hSw
              go_simp
              all_goals try decide
              all_goals try assumption
              all_goals try omega
            try simp only [Act.put, List.getElem_toArray, List.getElem_cons_succ, List.getElem_cons_zero, List.setIfInBounds_toArray, List.set_cons_zero, List.set_cons_succ]
            refine wpAnyH_take (i := 7) (v := (.agg (evA ea ek es))) rfl (by kernel_rfl) (by kernel_rfl) (by kernel_rfl) (fun _ _ _ h => h) (Or.inl ⟨by rfl, ?_⟩) (by assumption) ?_
            · intro w9 hSw
              try dsimp only at hSw
              go_simp
              all_goals try decide
              all_goals try assumption
              all_goals try omega
            try simp only [Act.put, List.getElem_toArray, List.getElem_cons_succ, List.getElem_cons_zero, List.setIfInBounds_toArray, List.set_cons_zero, List.set_cons_succ]
            refine wpAnyH_take (i := 8) (v := (.bool ok)) rfl (by kernel_rfl) (by kernel_rfl) (by kernel_rfl) (fun _ _ _ h => h) (Or.inl ⟨by rfl, ?_⟩) (by assumption) ?_
            · intro w9 hSw
              try dsimp only at hSw
              go_simp
              all_goals try decide
              all_goals try assumption
              all_goals try omega
            try simp only [Act.put, List.getElem_toArray, List.getElem_cons_succ, List.getElem_cons_zero, List.setIfInBounds_toArray, List.set_cons_zero, List.set_cons_succ]
            refine wpAnyH_ready (rs := [9]) (by kernel_rfl) (by simp) ?_
            refine AllReadyH.cons rfl (fun K' hK => ?_) AllReadyH.nil
            rw [if_pos (by rfl)]
            simp only [List.getElem_toArray, List.getElem_cons_succ, List.getElem_cons_zero]
            have S0 := hHeld
            go_wp2_with fail
            refine hK.out _ _ ((blk11 ((by repeat (first | exact Below.refl _ _ | apply Below.drew | apply Below.al)) : Below wfD2.heap.size wfD2 (wfD2.alloc (.cells (evA 0 0 0) 58))) S0)) (fun hHeld => ?_)
            clear hK K'
            try simp only [Act.put, List.getElem_toArray, List.getElem_cons_succ, List.getElem_cons_zero, List.setIfInBounds_toArray, List.set_cons_zero, List.set_cons_succ]
            have MD3 := (MD2).next ((by repeat (first | exact Below.refl _ _ | apply Below.drew | apply Below.al)) : Below wfD2.heap.size wfD2 (wfD2.alloc (.cells (evA 0 0 0) 58)))
            have BD3 : Below w.heap.size w (wfD2.alloc (.cells (evA 0 0 0) 58)) := Below.andThen BD2 ((by repeat (first | exact Below.refl _ _ | apply Below.drew | apply Below.al)) : Below wfD2.heap.size wfD2 (wfD2.alloc (.cells (evA 0 0 0) 58)))
            have AD3 : (wfD2.alloc (.cells (evA 0 0 0) 58)).heap[wfD2.heap.size]? = some (.cells (evA 0 0 0) 58 (0, 0)) := at11 _ _ _ rfl
            have LD3 : p ≤ (wfD2.alloc (.cells (evA 0 0 0) 58)).heap.size := Nat.le_trans LD2 ((by repeat (first | exact Below.refl _ _ | apply Below.drew | apply Below.al)) : Below wfD2.heap.size wfD2 (wfD2.alloc (.cells (evA 0 0 0) 58))).size
            have LbD3 : Hid (w.heap.size ≤ wfD2.heap.size) := (BD2).size
            have ED3 := blk11 ((by repeat (first | exact Below.refl _ _ | apply Below.drew | apply Below.al)) : Below wfD2.heap.size wfD2 (wfD2.alloc (.cells (evA 0 0 0) 58))) ED2
            obtain ⟨BBD, hBBD3⟩ : ∃ BB, BB = wfD2.heap.size := ⟨_, rfl⟩
            rw [← hBBD3] at AD3 LbD3 ⊢
            clear hBBD3
            generalize hzD3 : ((wfD2.alloc (.cells (evA 0 0 0) 58)) : World) = wfD3 at MD3 BD3 AD3 LD3 ED3 hHeld ⊢
            clear hzD3
            refine wpAnyH_ready (rs := [10]) (by kernel_rfl) (by simp) ?_
            refine AllReadyH.cons rfl (fun K' hK => ?_) AllReadyH.nil
            rw [if_pos (by rfl)]
            simp only [List.getElem_toArray, List.getElem_cons_succ, List.getElem_cons_zero]
            have S0 := hHeld
            have nBD4 : BX ≠ BBD := fun e => by have h9 := AD3; rw [← e, S0] at h9; simp at h9
            refine wp_store_row 58 (.tmp 10) (.tmp 104) rfl BBD (evA ea ek es) rfl rfl 58 _ AD3 infoUT rfl (evA_one _ _ _) ?_
            refine hK.out _ _ ((sh11 nBD4 S0)) (fun hHeld => ?_)
            clear hK K'
            try simp only [Act.put, List.getElem_toArray, List.getElem_cons_succ, List.getElem_cons_zero, List.setIfInBounds_toArray, List.set_cons_zero, List.set_cons_succ]
            have MD4 := (MD3).oth ((Kp.refl [BBD] _).row BBD (evA ea ek es) (.inl (by simp))) AD3 (by decide) (by decide) (by decide) (by decide)
            have BD4 : Below w.heap.size w (wfD3.setRow BBD (evA ea ek es)) := below_setRow BD3 LbD3.out _
            have AD4 := setRow_heap _ _ _ (evA ea ek es) _ _ AD3
            have LD4 : p ≤ (wfD3.setRow BBD (evA ea ek es)).heap.size := by have := LD3; rw [size_setRow]; omega
            have ED4 : (wfD3.setRow BBD (evA ea ek es)).heap[BBP]? = some (.cells (evA ea ek es) 54 (0, 0)) := sh11 (fun e => by have h9 := AD3; rw [← e, ED3] at h9; simp at h9) ED3
            generalize hzD4 : ((wfD3.setRow BBD (evA ea ek es)) : World) = wfD4 at MD4 BD4 AD4 LD4 ED4 hHeld ⊢
            clear hzD4
            refine wpAnyH_take (i := 11) (v := (.bool ok)) rfl (by kernel_rfl) (by kernel_rfl) (by kernel_rfl) (fun _ _ _ h => h) (Or.inl ⟨by rfl, ?_⟩) (by assumption) ?_
            · intro w9 hSw
              try dsimp only at hSw
              go_simp
              all_goals try decide
              all_goals try assumption
              all_goals try omega
            try simp only [Act.put, List.getElem_toArray, List.getElem_cons_succ, List.getElem_cons_zero, List.setIfInBounds_toArray, List.set_cons_zero, List.set_cons_succ]
            refine wpAnyH_done (by kernel_rfl) ?_ _
            have gX := hHeld
            have M9 : Hid (Md wfD4 p p q r S' S') := MD4
            have B9 := BD4
            have L9 := LD4
            have f0 : wfD4.cell? ⟨BBP, 0, none⟩ = some (.int .u8 ea) := by rw [cell_of_row _ _ 0 _ _ _ ED4]; rfl
            have f1 : wfD4.cell? ⟨BBP, 1, none⟩ = some (.int .u8 ek) := by rw [cell_of_row _ _ 1 _ _ _ ED4]; rfl
            have f2 : wfD4.cell? ⟨BBP, 2, none⟩ = some (.int .u8 es) := by rw [cell_of_row _ _ 2 _ _ _ ED4]; rfl
            have h0 : wfD4.cell? ⟨BBD, 0, none⟩ = some (.int .u8 ea) := by rw [cell_of_row _ _ 0 _ _ _ AD4]; rfl
            have h1 : wfD4.cell? ⟨BBD, 1, none⟩ = some (.int .u8 ek) := by rw [cell_of_row _ _ 1 _ _ _ AD4]; rfl
            have h2 : wfD4.cell? ⟨BBD, 2, none⟩ = some (.int .u8 es) := by rw [cell_of_row _ _ 2 _ _ _ AD4]; rfl
            have lf := lt_of_heap ED4
            have lh := lt_of_heap AD4
            clear hHeld SP SU OF
            go_wp2_with fail
            refine (same_any ea ek es _).mono ?_
            rintro e ws ⟨rfl, hbs⟩
            have M10 : Hid (Md ws p p q r S' S') := M9.out.next hbs
            have B10 : Below w.heap.size w ws := Below.andThen B9 hbs
            have L10 : p ≤ ws.heap.size := by have := hbs.size; omega
            have gX10 := blk11 hbs gX
            clear f0 f1 f2 h0 h1 h2 lf lh hbs B9 L9 gX M9
            have T1 : Hid _ := tells_any M10.out ZN.out x.nd XO.out.2.1.1
            have T2 : Hid (∀ W, Below ws.heap.size ws W → Calls Try.prog 26 #[pt p, pt q, .int .u8 1] W fun e w' => e = .returned (.bool true) ∧ Below W.heap.size W w') := fun W hW => tells_any ((M10.out).next hW) ZN.out 1 (by decide)
            have NEW : Hid (∀ W, Below ws.heap.size ws W → ∃ S, Z0 S ∧ Md W p p q r S S) := fun W hW => ⟨_, ZN.out, (M10.out).next hW⟩
            have cB := (Ox.cells gX10).2.1
            have lB := lt_of_heap gX10
            go_wp2_with fail
            refine Calls.mono T1.out ?_
            rintro e wt ⟨rfl, bt⟩
            go_wp2_with fail
            refine Calls.mono (T2.out _ bt) ?_
            rintro e wu ⟨rfl, bu⟩
            have BU := Below.andThen bt bu
            have FB : Below w.heap.size w wu := Below.andThen B10 BU
            have FL : p ≤ wu.heap.size := by have := BU.size; have := L10; omega
            have FN := NEW.out _ BU
            clear T1 T2 NEW bt bu BU cB lB
            go_wp2_with fail
            exact ⟨⟨i + 1, by omega, by go_num, FB, FL, FN⟩, by simp [intOf]; omega⟩
          · rw [if_pos (by rfl)]
            simp only [List.getElem_toArray, List.getElem_cons_succ, List.getElem_cons_zero]
            have S0 := hHeld
            go_wp2_with fail
            refine hK.out _ _ ((blk11 ((by repeat (first | exact Below.refl _ _ | apply Below.drew | apply Below.al)) : Below wfD1.heap.size wfD1 (wfD1.alloc (.cells (evA 0 0 0) 58))) S0)) (fun hHeld => ?_)
            clear hK K'
            try simp only [Act.put, List.getElem_toArray, List.getElem_cons_succ, List.getElem_cons_zero, List.setIfInBounds_toArray, List.set_cons_zero, List.set_cons_succ]
            have MD2 := (MD1).next ((by repeat (first | exact Below.refl _ _ | apply Below.drew | apply Below.al)) : Below wfD1.heap.size wfD1 (wfD1.alloc (.cells (evA 0 0 0) 58)))
            have BD2 : Below w.heap.size w (wfD1.alloc (.cells (evA 0 0 0) 58)) := Below.andThen BD1 ((by repeat (first | exact Below.refl _ _ | apply Below.drew | apply Below.al)) : Below wfD1.heap.size wfD1 (wfD1.alloc (.cells (evA 0 0 0) 58)))
            have AD2 : (wfD1.alloc (.cells (evA 0 0 0) 58)).heap[wfD1.heap.size]? = some (.cells (evA 0 0 0) 58 (0, 0)) := at11 _ _ _ rfl
            have LD2 : p ≤ (wfD1.alloc (.cells (evA 0 0 0) 58)).heap.size := Nat.le_trans LD1 ((by repeat (first | exact Below.refl _ _ | apply Below.drew | apply Below.al)) : Below wfD1.heap.size wfD1 (wfD1.alloc (.cells (evA 0 0 0) 58))).size
            have LbD2 : Hid (w.heap.size ≤ wfD1.heap.size) := (BD1).size
            have ED2 := blk11 ((by repeat (first | exact Below.refl _ _ | apply Below.drew | apply Below.al)) : Below wfD1.heap.size wfD1 (wfD1.alloc (.cells (evA 0 0 0) 58))) ED1
            obtain ⟨BBD, hBBD2⟩ : ∃ BB, BB = wfD1.heap.size := ⟨_, rfl⟩
            rw [← hBBD2] at AD2 LbD2 ⊢
            clear hBBD2
            generalize hzD2 : ((wfD1.alloc (.cells (evA 0 0 0) 58)) : World) = wfD2 at MD2 BD2 AD2 LD2 ED2 hHeld ⊢
            clear hzD2
            refine wpAnyH_ready (rs := [5]) (by kernel_rfl) (by simp) ?_
            refine AllReadyH.cons rfl (fun K' hK => ?_) AllReadyH.nil
            rw [if_pos (by rfl)]
            simp only [List.getElem_toArray, List.getElem_cons_succ, List.getElem_cons_zero]
            have S0 := hHeld
            go_wp2_with fail
            refine Calls.mono (SU.out _ MD2) ?_
            rintro e wfD3 ⟨rfl, MD3, kD3⟩
            try go_wp2_with fail
            have BD3 : Below w.heap.size w wfD3 := Kp.below BD2 kD3 (BD2).size (by intro j hj; have := LP.out; simp at hj; omega)
            have LD3 : p ≤ wfD3.heap.size := Nat.le_trans LD2 kD3.size
            have AD3 := kD3.keep (MD2).d.l AD2 (by decide)
            have ED3 := kD3.keep (MD2).d.l ED2 (by decide)
            refine hK.out _ _ (kD3.keep (MD2).d.l S0 (by decide)) (fun hHeld => ?_)
            clear hK K'
            try simp only [Act.put, List.getElem_toArray, List.getElem_cons_succ, List.getElem_cons_zero, List.setIfInBounds_toArray, List.set_cons_zero, List.set_cons_succ]
            clear kD3
            refine wpAnyH_take (i := 6) (v := (.tuple #[.agg (evA ea ek es), .bool ok])) rfl (by kernel_rfl) (by kernel_rfl) (by kernel_rfl) (fun _ _ _ h => h) (Or.inl ⟨by rfl, ?_⟩) (by assumption) ?_
            · intro w9 hSw
              try dsimp only at hSw
              go_simp
              all_goals try decide
              all_goals try assumption
              all_goals try omega
            try simp only [Act.put, List.getElem_toArray, List.getElem_cons_succ, List.getElem_cons_zero, List.setIfInBounds_toArray, List.set_cons_zero, List.set_cons_succ]
            refine wpAnyH_take (i := 7) (v := (.agg (evA ea ek es))) rfl (by kernel_rfl) (by kernel_rfl) (by kernel_rfl) (fun _ _ _ h => h) (Or.inl ⟨by rfl, ?_⟩) (by assumption) ?_
            · intro w9 hSw
              try dsimp only at hSw
              go_simp
              all_goals try decide
              all_goals try assumption
              all_goals try omega
            try simp only [Act.put, List.getElem_toArray, List.getElem_cons_succ, List.getElem_cons_zero, List.setIfInBounds_toArray, List.set_cons_zero, List.set_cons_succ]
            refine wpAnyH_take (i := 8) (v := (.bool ok)) rfl (by kernel_rfl) (by kernel_rfl) (by kernel_rfl) (fun _ _ _ h => h) (Or.inl ⟨by rfl, ?_⟩) (by assumption) ?_
            · intro w9 hSw
              try dsimp only at hSw
              go_simp
              all_goals try decide
              all_goals try assumption
              all_goals try omega
            try simp only [Act.put, List.getElem_toArray, List.getElem_cons_succ, List.getElem_cons_zero, List.setIfInBounds_toArray, List.set_cons_zero, List.set_cons_succ]
            refine wpAnyH_ready (rs := [10]) (by kernel_rfl) (by simp) ?_
            refine AllReadyH.cons rfl (fun K' hK => ?_) AllReadyH.nil
            rw [if_pos (by rfl)]
            simp only [List.getElem_toArray, List.getElem_cons_succ, List.getElem_cons_zero]
            have S0 := hHeld
            have nBD4 : BX ≠ BBD := fun e => by have h9 := AD3; rw [← e, S0] at h9; simp at h9
            refine wp_store_row 58 (.tmp 10) (.tmp 104) rfl BBD (evA ea ek es) rfl rfl 58 _ AD3 infoUT rfl (evA_one _ _ _) ?_
            refine hK.out _ _ ((sh11 nBD4 S0)) (fun hHeld => ?_)
            clear hK K'
            try simp only [Act.put, List.getElem_toArray, List.getElem_cons_succ, List.getElem_cons_zero, List.setIfInBounds_toArray, List.set_cons_zero, List.set_cons_succ]
            have MD4 := (MD3).oth ((Kp.refl [BBD] _).row BBD (evA ea ek es) (.inl (by simp))) AD3 (by decide) (by decide) (by decide) (by decide)
            have BD4 : Below w.heap.size w (wfD3.setRow BBD (evA ea ek es)) := below_setRow BD3 LbD2.out _
            have AD4 := setRow_heap _ _ _ (evA ea ek es) _ _ AD3
            have LD4 : p ≤ (wfD3.setRow BBD (evA ea ek es)).heap.size := by have := LD3; rw [size_setRow]; omega
            have ED4 : (wfD3.setRow BBD (evA ea ek es)).heap[BBP]? = some (.cells (evA ea ek es) 54 (0, 0)) := sh11 (fun e => by have h9 := AD3; rw [← e, ED3] at h9; simp at h9) ED3
            generalize hzD4 : ((wfD3.setRow BBD (evA ea ek es)) : World) = wfD4 at MD4 BD4 AD4 LD4 ED4 hHeld ⊢
            clear hzD4
            refine wpAnyH_take (i := 11) (v := (.bool ok)) rfl (by kernel_rfl) (by kernel_rfl) (by kernel_rfl) (fun _ _ _ h => h) (Or.inl ⟨by rfl, ?_⟩) (by assumption) ?_
            · intro w9 hSw
              try dsimp only at hSw
              go_simp
              all_goals try decide
              all_goals try assumption
              all_goals try omega
            try simp only [Act.put, List.getElem_toArray, List.getElem_cons_succ, List.getElem_cons_zero, List.setIfInBounds_toArray, List.set_cons_zero, List.set_cons_succ]
            refine wpAnyH_done (by kernel_rfl) ?_ _
            have gX := hHeld
            have M9 : Hid (Md wfD4 p p q r S' S') := MD4
            have B9 := BD4
            have L9 := LD4
            have f0 : wfD4.cell? ⟨BBP, 0, none⟩ = some (.int .u8 ea) := by rw [cell_of_row _ _ 0 _ _ _ ED4]; rfl
            have f1 : wfD4.cell? ⟨BBP, 1, none⟩ = some (.int .u8 ek) := by rw [cell_of_row _ _ 1 _ _ _ ED4]; rfl
            have f2 : wfD4.cell? ⟨BBP, 2, none⟩ = some (.int .u8 es) := by rw [cell_of_row _ _ 2 _ _ _ ED4]; rfl
            have h0 : wfD4.cell? ⟨BBD, 0, none⟩ = some (.int .u8 ea) := by rw [cell_of_row _ _ 0 _ _ _ AD4]; rfl
            have h1 : wfD4.cell? ⟨BBD, 1, none⟩ = some (.int .u8 ek) := by rw [cell_of_row _ _ 1 _ _ _ AD4]; rfl
            have h2 : wfD4.cell? ⟨BBD, 2, none⟩ = some (.int .u8 es) := by rw [cell_of_row _ _ 2 _ _ _ AD4]; rfl
            have lf := lt_of_heap ED4
            have lh := lt_of_heap AD4
            clear hHeld SP SU OF
            go_wp2_with fail
            refine (same_any ea ek es _).mono ?_
            rintro e ws ⟨rfl, hbs⟩
            have M10 : Hid (Md ws p p q r S' S') := M9.out.next hbs
            have B10 : Below w.heap.size w ws := Below.andThen B9 hbs
            have L10 : p ≤ ws.heap.size := by have := hbs.size; omega
            have gX10 := blk11 hbs gX
            clear f0 f1 f2 h0 h1 h2 lf lh hbs B9 L9 gX M9
            have T1 : Hid _ := tells_any M10.out ZN.out x.nd XO.out.2.1.1
            have T2 : Hid (∀ W, Below ws.heap.size ws W → Calls Try.prog 26 #[pt p, pt q, .int .u8 1] W fun e w' => e = .returned (.bool true) ∧ Below W.heap.size W w') := fun W hW => tells_any ((M10.out).next hW) ZN.out 1 (by decide)
            have NEW : Hid (∀ W, Below ws.heap.size ws W → ∃ S, Z0 S ∧ Md W p p q r S S) := fun W hW => ⟨_, ZN.out, (M10.out).next hW⟩
            have cB := (Ox.cells gX10).2.1
            have lB := lt_of_heap gX10
            go_wp2_with fail
            refine Calls.mono T1.out ?_
            rintro e wt ⟨rfl, bt⟩
            go_wp2_with fail
            refine Calls.mono (T2.out _ bt) ?_
            rintro e wu ⟨rfl, bu⟩
            have BU := Below.andThen bt bu
            have FB : Below w.heap.size w wu := Below.andThen B10 BU
            have FL : p ≤ wu.heap.size := by have := BU.size; have := L10; omega
            have FN := NEW.out _ BU
            clear T1 T2 NEW bt bu BU cB lB
            go_wp2_with fail
            exact ⟨⟨i + 1, by omega, by go_num, FB, FL, FN⟩, by simp [intOf]; omega⟩
        · rw [if_pos (by rfl)]
          simp only [List.getElem_toArray, List.getElem_cons_succ, List.getElem_cons_zero]
          have S0 := hHeld
          go_wp2_with fail
          refine hK.out _ _ ((blk11 ((al_drew _ _) : Below wfP4.heap.size wfP4.drew ((wfP4.alloc (.cells (evA 0 0 0) 58)).drew)) S0)) (fun hHeld => ?_)
          clear hK K'
          try simp only [Act.put, List.getElem_toArray, List.getElem_cons_succ, List.getElem_cons_zero, List.setIfInBounds_toArray, List.set_cons_zero, List.set_cons_succ]
          have MD1 := (Md0).next ((al_drew _ _) : Below wfP4.heap.size wfP4.drew ((wfP4.alloc (.cells (evA 0 0 0) 58)).drew))
          have BD1 : Below w.heap.size w ((wfP4.alloc (.cells (evA 0 0 0) 58)).drew) := Below.andThen Bd0 ((al_drew _ _) : Below wfP4.heap.size wfP4.drew ((wfP4.alloc (.cells (evA 0 0 0) 58)).drew))
          have AD1 : ((wfP4.alloc (.cells (evA 0 0 0) 58)).drew).heap[wfP4.heap.size]? = some (.cells (evA 0 0 0) 58 (0, 0)) := at11 _ _ _ rfl
          have LD1 : p ≤ ((wfP4.alloc (.cells (evA 0 0 0) 58)).drew).heap.size := Nat.le_trans Ld0 ((al_drew _ _) : Below wfP4.heap.size wfP4.drew ((wfP4.alloc (.cells (evA 0 0 0) 58)).drew)).size
          have LbD1 : Hid (w.heap.size ≤ wfP4.heap.size) := (Bd0).size
          have ED1 := blk11 ((al_drew _ _) : Below wfP4.heap.size wfP4.drew ((wfP4.alloc (.cells (evA 0 0 0) 58)).drew)) Ed0
          obtain ⟨BBD, hBBD1⟩ : ∃ BB, BB = wfP4.heap.size := ⟨_, rfl⟩
          rw [← hBBD1] at AD1 LbD1 ⊢
          clear hBBD1
          generalize hzD1 : (((wfP4.alloc (.cells (evA 0 0 0) 58)).drew) : World) = wfD1 at MD1 BD1 AD1 LD1 ED1 hHeld ⊢
          clear hzD1
          refine wpAnyH_ready (rs := [2]) (by kernel_rfl) (by simp) ?_
          refine AllReadyH.cons rfl (fun K' hK => ?_) AllReadyH.nil
          rw [if_pos (by rfl)]
          simp only [List.getElem_toArray, List.getElem_cons_succ, List.getElem_cons_zero]
          have S0 := hHeld
          go_wp2_with fail
          refine Calls.mono (OF.out _) ?_
          rintro e wfD2 ⟨rfl, hbD2⟩
          try go_wp2_with fail
          have MD2 := (MD1).next hbD2
          have BD2 : Below w.heap.size w wfD2 := Below.andThen BD1 hbD2
          have LD2 : p ≤ wfD2.heap.size := Nat.le_trans LD1 hbD2.size
          have AD2 := blk11 hbD2 AD1
          have ED2 := blk11 hbD2 ED1
          refine hK.out _ _ (blk11 hbD2 S0) (fun hHeld => ?_)
          clear hK K'
          try simp only [Act.put, List.getElem_toArray, List.getElem_cons_succ, List.getElem_cons_zero, List.setIfInBounds_toArray, List.set_cons_zero, List.set_cons_succ]
          clear hbD2
          refine wpAnyH_ready (rs := [5]) (by kernel_rfl) (by simp) ?_
          refine AllReadyH.cons rfl (fun K' hK => ?_) AllReadyH.nil
          rw [if_pos (by rfl)]
          simp only [List.getElem_toArray, List.getElem_cons_succ, List.getElem_cons_zero]
          have S0 := hHeld
          go_wp2_with fail
          refine Calls.mono (SU.out _ MD2) ?_
          rintro e wfD3 ⟨rfl, MD3, kD3⟩
          try go_wp2_with fail
          have BD3 : Below w.heap.size w wfD3 := Kp.below BD2 kD3 (BD2).size (by intro j hj; have := LP.out; simp at hj; omega)
          have LD3 : p ≤ wfD3.heap.size := Nat.le_trans LD2 kD3.size
          have AD3 := kD3.keep (MD2).d.l AD2 (by decide)
          have ED3 := kD3.keep (MD2).d.l ED2 (by decide)
          refine hK.out _ _ (kD3.keep (MD2).d.l S0 (by decide)) (fun hHeld => ?_)
          clear hK K'
          try simp only [Act.put, List.getElem_toArray, List.getElem_cons_succ, List.getElem_cons_zero, List.setIfInBounds_toArray, List.set_cons_zero, List.set_cons_succ]
          clear kD3
          refine wpAnyH_take (i := 6) (v := (.tuple #[.agg (evA ea ek es), .bool ok])) rfl (by kernel_rfl) (by kernel_rfl) (by kernel_rfl) (fun _ _ _ h => h) (Or.inl ⟨by rfl, ?_⟩) (by assumption) ?_
          · intro w9 hSw
            try dsimp only at hSw
            go_simp
            all_goals try decide
            all_goals try assumption
            all_goals try omega
          try simp only [Act.put, List.getElem_toArray, List.getElem_cons_succ, List.getElem_cons_zero, List.setIfInBounds_toArray, List.set_cons_zero, List.set_cons_succ]
          refine wpAnyH_take (i := 7) (v := (.agg (evA ea ek es))) rfl (by kernel_rfl) (by kernel_rfl) (by kernel_rfl) (fun _ _ _ h => h) (Or.inl ⟨by rfl, ?_⟩) (by assumption) ?_
          · intro w9 hSw
            try dsimp only at hSw
            go_simp
            all_goals try decide
            all_goals try assumption
            all_goals try omega
          try simp only [Act.put, List.getElem_toArray, List.getElem_cons_succ, List.getElem_cons_zero, List.setIfInBounds_toArray, List.set_cons_zero, List.set_cons_succ]
          refine wpAnyH_take (i := 8) (v := (.bool ok)) rfl (by kernel_rfl) (by kernel_rfl) (by kernel_rfl) (fun _ _ _ h => h) (Or.inl ⟨by rfl, ?_⟩) (by assumption) ?_
          · intro w9 hSw
            try dsimp only at hSw
            go_simp
            all_goals try decide
            all_goals try assumption
            all_goals try omega
          try simp only [Act.put, List.getElem_toArray, List.getElem_cons_succ, List.getElem_cons_zero, List.setIfInBounds_toArray, List.set_cons_zero, List.set_cons_succ]
          refine wpAnyH_ready (rs := [10]) (by kernel_rfl) (by simp) ?_
          refine AllReadyH.cons rfl (fun K' hK => ?_) AllReadyH.nil
          rw [if_pos (by rfl)]
          simp only [List.getElem_toArray, List.getElem_cons_succ, List.getElem_cons_zero]
          have S0 := hHeld
          have nBD4 : BX ≠ BBD := fun e => by have h9 := AD3; rw [← e, S0] at h9; simp at h9
          refine wp_store_row 58 (.tmp 10) (.tmp 104) rfl BBD (evA ea ek es) rfl rfl 58 _ AD3 infoUT rfl (evA_one _ _ _) ?_
          refine hK.out _ _ ((sh11 nBD4 S0)) (fun hHeld => ?_)
          clear hK K'
          try simp only [Act.put, List.getElem_toArray, List.getElem_cons_succ, List.getElem_cons_zero, List.setIfInBounds_toArray, List.set_cons_zero, List.set_cons_succ]
          have MD4 := (MD3).oth ((Kp.refl [BBD] _).row BBD (evA ea ek es) (.inl (by simp))) AD3 (by decide) (by decide) (by decide) (by decide)
          have BD4 : Below w.heap.size w (wfD3.setRow BBD (evA ea ek es)) := below_setRow BD3 LbD1.out _
          have AD4 := setRow_heap _ _ _ (evA ea ek es) _ _ AD3
          have LD4 : p ≤ (wfD3.setRow BBD (evA ea ek es)).heap.size := by have := LD3; rw [size_setRow]; omega
          have ED4 : (wfD3.setRow BBD (evA ea ek es)).heap[BBP]? = some (.cells (evA ea ek es) 54 (0, 0)) := sh11 (fun e => by have h9 := AD3; rw [← e, ED3] at h9; simp at h9) ED3
          generalize hzD4 : ((wfD3.setRow BBD (evA ea ek es)) : World) = wfD4 at MD4 BD4 AD4 LD4 ED4 hHeld ⊢
          clear hzD4
          refine wpAnyH_take (i := 11) (v := (.bool ok)) rfl (by kernel_rfl) (by kernel_rfl) (by kernel_rfl) (fun _ _ _ h => h) (Or.inl ⟨by rfl, ?_⟩) (by assumption) ?_
          · intro w9 hSw
            try dsimp only at hSw
            go_simp
            all_goals try decide
            all_goals try assumption
            all_goals try omega
          try simp only [Act.put, List.getElem_toArray, List.getElem_cons_succ, List.getElem_cons_zero, List.setIfInBounds_toArray, List.set_cons_zero, List.set_cons_succ]
          refine wpAnyH_done (by kernel_rfl) ?_ _
          have gX := hHeld
          have M9 : Hid (Md wfD4 p p q r S' S') := MD4
          have B9 := BD4
          have L9 := LD4
          have f0 : wfD4.cell? ⟨BBP, 0, none⟩ = some (.int .u8 ea) := by rw [cell_of_row _ _ 0 _ _ _ ED4]; rfl
          have f1 : wfD4.cell? ⟨BBP, 1, none⟩ = some (.int .u8 ek) := by rw [cell_of_row _ _ 1 _ _ _ ED4]; rfl
          have f2 : wfD4.cell? ⟨BBP, 2, none⟩ = some (.int .u8 es) := by rw [cell_of_row _ _ 2 _ _ _ ED4]; rfl
          have h0 : wfD4.cell? ⟨BBD, 0, none⟩ = some (.int .u8 ea) := by rw [cell_of_row _ _ 0 _ _ _ AD4]; rfl
          have h1 : wfD4.cell? ⟨BBD, 1, none⟩ = some (.int .u8 ek) := by rw [cell_of_row _ _ 1 _ _ _ AD4]; rfl
          have h2 : wfD4.cell? ⟨BBD, 2, none⟩ = some (.int .u8 es) := by rw [cell_of_row _ _ 2 _ _ _ AD4]; rfl
          have lf := lt_of_heap ED4
          have lh := lt_of_heap AD4
          clear hHeld SP SU OF
          go_wp2_with fail
          refine (same_any ea ek es _).mono ?_
          rintro e ws ⟨rfl, hbs⟩
          have M10 : Hid (Md ws p p q r S' S') := M9.out.next hbs
          have B10 : Below w.heap.size w ws := Below.andThen B9 hbs
          have L10 : p ≤ ws.heap.size := by have := hbs.size; omega
          have gX10 := blk11 hbs gX
          clear f0 f1 f2 h0 h1 h2 lf lh hbs B9 L9 gX M9
          have T1 : Hid _ := tells_any M10.out ZN.out x.nd XO.out.2.1.1
          have T2 : Hid (∀ W, Below ws.heap.size ws W → Calls Try.prog 26 #[pt p, pt q, .int .u8 1] W fun e w' => e = .returned (.bool true) ∧ Below W.heap.size W w') := fun W hW => tells_any ((M10.out).next hW) ZN.out 1 (by decide)
          have NEW : Hid (∀ W, Below ws.heap.size ws W → ∃ S, Z0 S ∧ Md W p p q r S S) := fun W hW => ⟨_, ZN.out, (M10.out).next hW⟩
          have cB := (Ox.cells gX10).2.1
          have lB := lt_of_heap gX10
          go_wp2_with fail
          refine Calls.mono T1.out ?_
          rintro e wt ⟨rfl, bt⟩
          go_wp2_with fail
          refine Calls.mono (T2.out _ bt) ?_
          rintro e wu ⟨rfl, bu⟩
          have BU := Below.andThen bt bu
          have FB : Below w.heap.size w wu := Below.andThen B10 BU
          have FL : p ≤ wu.heap.size := by have := BU.size; have := L10; omega
          have FN := NEW.out _ BU
          clear T1 T2 NEW bt bu BU cB lB
          go_wp2_with fail
          exact ⟨⟨i + 1, by omega, by go_num, FB, FL, FN⟩, by simp [intOf]; omega⟩
    obtain ⟨l, S', Z', l128, SP0, SU0⟩ := tick_tw (p := p) (q := q) (r := r) ZH.out MY.ok x.now
    have SP : Hid _ := SP0
    have SU : Hid _ := SU0
    have ZN : Hid (Z0 S') := Z'
    clear SP0 SU0 Z'
    go_wp2_with fail
    rw [← hBX.out]
    generalize hy : (wr.alloc (.cells x.A 51) : World) = y at Y0 MY gB0 LY ⊢
    clear hy hBX lbr B LL c0 c1 c2 c3 c4 c5 c6 c7 c8 c9 c10 c11 c12 c13 c14 c15
    have MY : Hid (Md y p p q r S S) := MY
    have LBX : Hid (BX < y.heap.size) := lt_of_heap gB0
    refine wp_region_held_drew (S := fun x1 => x1.heap[BX]? = some (.cells x.A 51 (0, 0))) (by kernel_rfl) (gB0) (fun hHeld => ?_)
    refine wpAnyH_take (i := 0) (v := (pt p)) rfl (by kernel_rfl) (by kernel_rfl) (by kernel_rfl) (fun _ _ _ h => h) (Or.inl ⟨by rfl, ?_⟩) (by assumption) ?_
    · intro w9 hSw
      try dsimp only at hSw
      go_simp
      all_goals try decide
      all_goals try assumption
      all_goals try omega
    try simp only [Act.put, List.getElem_toArray, List.getElem_cons_succ, List.getElem_cons_zero, List.setIfInBounds_toArray, List.set_cons_zero, List.set_cons_succ]
    refine wpAnyH_take (i := 1) (v := (.pointer (some ⟨BX, 4, none⟩))) rfl (by kernel_rfl) (by kernel_rfl) (by kernel_rfl) (fun _ _ _ h => h) (Or.inl ⟨by rfl, ?_⟩) (by assumption) ?_
    · intro w9 hSw
      try dsimp only at hSw
      go_simp
      all_goals try decide
      all_goals try assumption
      all_goals try omega
    try simp only [Act.put, List.getElem_toArray, List.getElem_cons_succ, List.getElem_cons_zero, List.setIfInBounds_toArray, List.set_cons_zero, List.set_cons_succ]
    refine wpAnyH_take (i := 2) (v := (.int .i64 x.now)) rfl (by kernel_rfl) (by kernel_rfl) (by kernel_rfl) (fun _ _ _ h => h) (Or.inl ⟨by rfl, ?_⟩) (by assumption) ?_
    · intro w9 hSw
      try dsimp only at hSw
      obtain ⟨hc0, hc1, hc3, hc4⟩ := Ox.cells hSw
      go_simp
      all_goals try assumption
    try simp only [Act.put, List.getElem_toArray, List.getElem_cons_succ, List.getElem_cons_zero, List.setIfInBounds_toArray, List.set_cons_zero, List.set_cons_succ]
    refine wpAnyH_take (i := 4) (v := (pt q)) rfl (by kernel_rfl) (by kernel_rfl) (by kernel_rfl) (fun _ _ _ h => h) (Or.inl ⟨by rfl, ?_⟩) (by assumption) ?_
    · intro w9 hSw
      try dsimp only at hSw
      go_simp
      all_goals try decide
      all_goals try assumption
      all_goals try omega
    try simp only [Act.put, List.getElem_toArray, List.getElem_cons_succ, List.getElem_cons_zero, List.setIfInBounds_toArray, List.set_cons_zero, List.set_cons_succ]
    refine wpAnyH_take (i := 5) (v := (.pointer (some ⟨BX, 4, none⟩))) rfl (by kernel_rfl) (by kernel_rfl) (by kernel_rfl) (fun _ _ _ h => h) (Or.inl ⟨by rfl, ?_⟩) (by assumption) ?_
    · intro w9 hSw
      try dsimp only at hSw
      go_simp
      all_goals try decide
      all_goals try assumption
      all_goals try omega
    try simp only [Act.put, List.getElem_toArray, List.getElem_cons_succ, List.getElem_cons_zero, List.setIfInBounds_toArray, List.set_cons_zero, List.set_cons_succ]
    refine wpAnyH_take (i := 6) (v := (.int .i64 x.now)) rfl (by kernel_rfl) (by kernel_rfl) (by kernel_rfl) (fun _ _ _ h => h) (Or.inl ⟨by rfl, ?_⟩) (by assumption) ?_
    · intro w9 hSw
      try dsimp only at hSw
      obtain ⟨hc0, hc1, hc3, hc4⟩ := Ox.cells hSw
      go_simp
      all_goals try assumption
    try simp only [Act.put, List.getElem_toArray, List.getElem_cons_succ, List.getElem_cons_zero, List.setIfInBounds_toArray, List.set_cons_zero, List.set_cons_succ]
    refine wpAnyH_ready (rs := [3]) (by kernel_rfl) (by simp) ?_
    refine AllReadyH.cons rfl (fun K' hK => ?_) AllReadyH.nil
    rw [if_pos (by rfl)]
    simp only [List.getElem_toArray, List.getElem_cons_succ, List.getElem_cons_zero]
    have S0 := hHeld
    go_wp2_with fail
    refine Calls.mono (SP.out _ (MY.out.next (Below.drew (Below.refl _ _)))) ?_
    rintro e w3 ⟨v1, rfl, ev1, ow1, M3, k3⟩
    obtain ⟨a1, q1, rfl⟩ := ev1.form
    try go_wp2_with fail
    have B3 : Below w.heap.size w w3 := Kt.up (Below.drew Y0) k3 LP.out.1 Y0.size
    have L3 : p ≤ w3.heap.size := Nat.le_trans LY k3.size
    refine hK.out _ _ (k3.typ _ _ _ _ S0 (by decide) (by decide)) (fun hHeld => ?_)
    clear hK K'
    try simp only [Act.put, List.getElem_toArray, List.getElem_cons_succ, List.getElem_cons_zero, List.setIfInBounds_toArray, List.set_cons_zero, List.set_cons_succ]
    clear k3
    refine wpAnyH_ready (rs := [7]) (by kernel_rfl) (by simp) ?_
    refine AllReadyH.cons rfl (fun K' hK => ?_) AllReadyH.nil
    rw [if_pos (by rfl)]
    simp only [List.getElem_toArray, List.getElem_cons_succ, List.getElem_cons_zero]
    have S0 := hHeld
    go_wp2_with fail
    refine Calls.mono (SU.out _ M3) ?_
    rintro e w4 ⟨v2, rfl, ev2, ow2, M4, k4⟩
    obtain ⟨a2, q2, rfl⟩ := ev2.form
    try go_wp2_with fail
    have B4 : Below w.heap.size w w4 := Kp.below B3 k4 B3.size (by intro j hj; have := LP.out; simp at hj; omega)
    have L4 : p ≤ w4.heap.size := Nat.le_trans L3 k4.size
    have ev1' : IsEv w4 (.slice a1 l.length q1) l := ev1.kp k4 (fun g hg hm => own_ne ev1 M3.d.l (by decide) (by simp at hm; rw [hg, hm]))
    have s3 : Hid (∀ g, Value.ownBlock (.slice a1 l.length q1) = some g → g < w3.heap.size) := fun g hg => ev1.lt g hg
    refine hK.out _ _ (k4.keep M3.d.l S0 (by decide)) (fun hHeld => ?_)
    clear hK K'
    try simp only [Act.put, List.getElem_toArray, List.getElem_cons_succ, List.getElem_cons_zero, List.setIfInBounds_toArray, List.set_cons_zero, List.set_cons_succ]
    clear k4
    refine wpAnyH_take (i := 8) (v := (.slice a1 l.length q1)) rfl (by kernel_rfl) (by kernel_rfl) (by kernel_rfl) (fun _ _ _ h => h) (Or.inl ⟨by rfl, ?_⟩) (by assumption) ?_
    · intro w9 hSw
      try dsimp only at hSw
      go_simp
      all_goals try decide
      all_goals try assumption
      all_goals try omega
    try simp only [Act.put, List.getElem_toArray, List.getElem_cons_succ, List.getElem_cons_zero, List.setIfInBounds_toArray, List.set_cons_zero, List.set_cons_succ]
    refine wpAnyH_take (i := 9) (v := (.slice a2 l.length q2)) rfl (by kernel_rfl) (by kernel_rfl) (by kernel_rfl) (fun _ _ _ h => h) (Or.inl ⟨by rfl, ?_⟩) (by assumption) ?_
    · intro w9 hSw
      try dsimp only at hSw
      go_simp
      all_goals try decide
      all_goals try assumption
      all_goals try omega
    try simp only [Act.put, List.getElem_toArray, List.getElem_cons_succ, List.getElem_cons_zero, List.setIfInBounds_toArray, List.set_cons_zero, List.set_cons_succ]
    refine wpAnyH_done (by kernel_rfl) ?_ _
    have gX := hHeld
    have M5 : Hid (Md w4 p p q r S' S') := M4
    have ow1 : Hid _ := ow1
    have ow2 : Hid _ := ow2
    have YS : Hid (w.heap.size ≤ y.heap.size) := Y0.size
    clear hHeld S0 M3 M4 B3 L3 SP SU MY Y0 LY gB0 ev1
    obtain ⟨wo, rfl⟩ : ∃ z, z = wr := ⟨_, rfl⟩
    by_cases h0 : 0 < l.length
    rotate_left
    · have e0 : l.length = 0 := by omega
      rw [e0]
      clear ev1' ev2 ow1 ow2 s3 YS h0
      go_wp2_with fail
      go_loopw [14] (fun u wr => u = .int .i64 0 ∧ wr = w4) (fun _ _ => 0)
      case atStart => exact ⟨rfl, rfl⟩
      case round =>
        obtain ⟨rfl, rfl⟩ := hrel
        have T1 : Hid _ := tells_any M5.out ZN.out x.nd XO.out.2.1.1
        have T2 : Hid (∀ W, Below wr.heap.size wr W → Calls Try.prog 26 #[pt p, pt q, .int .u8 1] W fun e w' => e = .returned (.bool true) ∧ Below W.heap.size W w') := fun W hW => tells_any ((M5.out).next hW) ZN.out 1 (by decide)
        have NEW : Hid (∀ W, Below wr.heap.size wr W → ∃ S, Z0 S ∧ Md W p p q r S S) := fun W hW => ⟨_, ZN.out, (M5.out).next hW⟩
        have cB := (Ox.cells gX).2.1
        have lB := lt_of_heap gX
        go_wp2_with fail
        refine Calls.mono T1.out ?_
        rintro e wt ⟨rfl, bt⟩
        go_wp2_with fail
        refine Calls.mono (T2.out _ bt) ?_
        rintro e wu ⟨rfl, bu⟩
        have BU := Below.andThen bt bu
        have FB : Below w.heap.size w wu := Below.andThen B4 BU
        have FL : p ≤ wu.heap.size := by have := BU.size; have := L4; omega
        have FN := NEW.out _ BU
        clear T1 T2 NEW bt bu BU cB lB
        go_wp2_with fail
        exact ⟨⟨i + 1, by omega, by go_num, FB, FL, FN⟩, by simp [intOf]; omega⟩
    · obtain ⟨g1, o1, q1', e1, O1⟩ := ev1'.pos h0
      cases e1
      obtain ⟨g2, o2, q2', e2, O2⟩ := ev2.pos h0
      cases e2
      have RA : Hid (Rw w4 54 g1 o1 0 l) := Rw.of rfl O1
      have RB : Hid (Rw w4 58 g2 o2 0 l) := Rw.of rfl O2
      have NG : Hid (g1 ≠ g2 ∧ w.heap.size ≤ g1) := by show _ ∧ _; have h1 := ow1.out g1 rfl; have h2 := ow2.out g2 rfl; have h3 := s3.out g1 rfl; have h4 := YS.out; have h5 : y.drew.heap.size = y.heap.size := rfl; omega
      have GX : Hid (w4.heap[BX]? = some (.cells x.A 51 (0, 0))) := gX
      clear ev1' ev2 ow1 ow2 s3 YS O1 O2 gX
      have l8 : (l.length : Int) ≤ 128 := by omega
      go_wp2_with fail
      go_loopw [14] (fun jv wr => ∃ j : Nat, j ≤ l.length ∧ jv = .int .i64 (j : Int) ∧ Below w.heap.size w wr ∧ p ≤ wr.heap.size ∧ Md wr p p q r S' S' ∧ wr.heap[BX]? = some (.cells x.A 51 (0, 0)) ∧ Rw wr 54 g1 o1 j l ∧ Rw wr 58 g2 o2 j l) (fun jv _ => l.length - (intOf jv).toNat)
      case atStart => exact ⟨0, Nat.zero_le _, rfl, B4, L4, M5.out, GX.out, RA.out, RB.out⟩
      case round =>
        clear B4 L4 M5 GX RA RB
        obtain ⟨j, hj, rfl, Bj, Lj, Mj, Gj, RAj, RBj⟩ := hrel
        by_cases hjl : j < l.length
        · have gj : (j : Int) < (l.length : Int) := by omega
          have gj0 : (0 : Int) ≤ (j : Int) := by omega
          have wk : IntKind.i64.wrap ((j : Int) + 1) = ((j + 1 : Nat) : Int) := by rw [IntKind.wrap_i64]; omega
          obtain ⟨ev, hev⟩ : ∃ ev, l[j]? = some ev := ⟨_, List.getElem?_eq_getElem hjl⟩
          have HR : Hid ((Md wr p p q r S' S' ∧ wr.heap[BX]? = some (.cells x.A 51 (0, 0))) ∧ Rw wr 54 g1 o1 j l ∧ Rw wr 58 g2 o2 j l) := ⟨⟨Mj, Gj⟩, RAj, RBj⟩
          have HE : Hid (l[j]? = some ev) := hev
          clear Mj Gj RAj RBj hev
          go_wp2_with fail
          refine wp_region_held_drew (S := fun x1 => Below wr.heap.size wr x1) (by kernel_rfl) (Below.drew (Below.refl _ _)) (fun hHeld => ?_)
          refine wpAnyH_take (i := 0) (v := (.slice (some ⟨g1, o1, none⟩) l.length q1)) rfl (by kernel_rfl) (by kernel_rfl) (by kernel_rfl) (fun _ _ _ h => h) (Or.inl ⟨by rfl, ?_⟩) (by assumption) ?_
          · intro w9 hSw
            try dsimp only at hSw
            go_simp
            all_goals try decide
            all_goals try assumption
            all_goals try omega
          try simp only [Act.put, List.getElem_toArray, List.getElem_cons_succ, List.getElem_cons_zero, List.setIfInBounds_toArray, List.set_cons_zero, List.set_cons_succ]
          refine wpAnyH_take (i := 1) (v := (.int .i64 (j : Int))) rfl (by kernel_rfl) (by kernel_rfl) (by kernel_rfl) (fun _ _ _ h => h) (Or.inl ⟨by rfl, ?_⟩) (by assumption) ?_
          · intro w9 hSw
            try dsimp only at hSw
            go_simp
            all_goals try decide
            all_goals try assumption
            all_goals try omega
          try simp only [Act.put, List.getElem_toArray, List.getElem_cons_succ, List.getElem_cons_zero, List.setIfInBounds_toArray, List.set_cons_zero, List.set_cons_succ]
          refine wpAnyH_take (i := 2) (v := (.pointer (some ⟨g1, o1 + j * 3, none⟩))) rfl (by kernel_rfl) (by kernel_rfl) (by kernel_rfl) (fun _ _ _ h => h) (Or.inl ⟨by rfl, ?_⟩) (by assumption) ?_
          · intro w9 hSw
            try dsimp only at hSw
            go_simp
            all_goals try decide
            all_goals try assumption
            all_goals try omega
          try simp only [Act.put, List.getElem_toArray, List.getElem_cons_succ, List.getElem_cons_zero, List.setIfInBounds_toArray, List.set_cons_zero, List.set_cons_succ]
          refine wpAnyH_take (i := 3) (v := (.agg (evA ev.n ev.k ev.s))) rfl (by kernel_rfl) (by kernel_rfl) (by kernel_rfl) (fun _ _ _ h => h) (Or.inl ⟨by rfl, ?_⟩) (by assumption) ?_
          · intro w9 hSw
            try dsimp only at hSw
            exact ex_load11 54 (.tmp 57) rfl _ _ rfl ((HR.out.2.1.next hSw).load (.inl rfl) (Nat.le_refl _) HE.out)
          try simp only [Act.put, List.getElem_toArray, List.getElem_cons_succ, List.getElem_cons_zero, List.setIfInBounds_toArray, List.set_cons_zero, List.set_cons_succ]
          refine wpAnyH_take (i := 4) (v := (.slice (some ⟨g2, o2, none⟩) l.length q2)) rfl (by kernel_rfl) (by kernel_rfl) (by kernel_rfl) (fun _ _ _ h => h) (Or.inl ⟨by rfl, ?_⟩) (by assumption) ?_
          · intro w9 hSw
            try dsimp only at hSw
            go_simp
            all_goals try decide
            all_goals try assumption
            all_goals try omega
          try simp only [Act.put, List.getElem_toArray, List.getElem_cons_succ, List.getElem_cons_zero, List.setIfInBounds_toArray, List.set_cons_zero, List.set_cons_succ]
          refine wpAnyH_take (i := 5) (v := (.int .i64 (j : Int))) rfl (by kernel_rfl) (by kernel_rfl) (by kernel_rfl) (fun _ _ _ h => h) (Or.inl ⟨by rfl, ?_⟩) (by assumption) ?_
          · intro w9 hSw
            try dsimp only at hSw
            go_simp
            all_goals try decide
            all_goals try assumption
            all_goals try omega
          try simp only [Act.put, List.getElem_toArray, List.getElem_cons_succ, List.getElem_cons_zero, List.setIfInBounds_toArray, List.set_cons_zero, List.set_cons_succ]
          refine wpAnyH_take (i := 6) (v := (.pointer (some ⟨g2, o2 + j * 3, none⟩))) rfl (by kernel_rfl) (by kernel_rfl) (by kernel_rfl) (fun _ _ _ h => h) (Or.inl ⟨by rfl, ?_⟩) (by assumption) ?_
          · intro w9 hSw
            try dsimp only at hSw
            go_simp
            all_goals try decide
            all_goals try assumption
            all_goals try omega
          try simp only [Act.put, List.getElem_toArray, List.getElem_cons_succ, List.getElem_cons_zero, List.setIfInBounds_toArray, List.set_cons_zero, List.set_cons_succ]
          refine wpAnyH_take (i := 7) (v := (.agg (evA ev.n ev.k ev.s))) rfl (by kernel_rfl) (by kernel_rfl) (by kernel_rfl) (fun _ _ _ h => h) (Or.inl ⟨by rfl, ?_⟩) (by assumption) ?_
          · intro w9 hSw
            try dsimp only at hSw
            exact ex_load11 58 (.tmp 61) rfl _ _ rfl ((HR.out.2.2.next hSw).load (.inr rfl) (Nat.le_refl _) HE.out)
          try simp only [Act.put, List.getElem_toArray, List.getElem_cons_succ, List.getElem_cons_zero, List.setIfInBounds_toArray, List.set_cons_zero, List.set_cons_succ]
          refine wpAnyH_ready (rs := [8]) (by kernel_rfl) (by simp) ?_
          refine AllReadyH.cons rfl (fun K' hK => ?_) AllReadyH.nil
          rw [if_pos (by rfl)]
          simp only [List.getElem_toArray, List.getElem_cons_succ, List.getElem_cons_zero]
          have S0 := hHeld
          go_wp2_with fail
          refine (same_any ev.n ev.k ev.s _).mono ?_
          rintro e ws ⟨rfl, hbs⟩
          try go_wp2_with fail
          refine hK.out _ _ (Below.andThen S0 hbs) (fun hHeld => ?_)
          clear hK K'
          try simp only [Act.put, List.getElem_toArray, List.getElem_cons_succ, List.getElem_cons_zero, List.setIfInBounds_toArray, List.set_cons_zero, List.set_cons_succ]
          clear hbs
          refine wpAnyH_take (i := 9) (v := (.bool false)) rfl (by kernel_rfl) (by kernel_rfl) (by kernel_rfl) (fun _ _ _ h => h) (Or.inl ⟨by rfl, ?_⟩) (by assumption) ?_
          · intro w9 hSw
            try dsimp only at hSw
            go_simp
            all_goals try decide
            all_goals try assumption
            all_goals try omega
          try simp only [Act.put, List.getElem_toArray, List.getElem_cons_succ, List.getElem_cons_zero, List.setIfInBounds_toArray, List.set_cons_zero, List.set_cons_succ]
          refine wpAnyH_done (by kernel_rfl) ?_ _
          have z0 := hHeld
          clear hHeld
          generalize hz : (ws : World) = z at z0 ⊢
          clear hz
          have BZ : Below w.heap.size w z := Below.andThen Bj z0
          have LZ : p ≤ z.heap.size := Nat.le_trans Lj z0.size
          have MZ := HR.out.1.1.next z0
          have GZ := blk11 z0 HR.out.1.2
          have RAZ := HR.out.2.1.next z0
          have RBZ := HR.out.2.2.next z0
          obtain ⟨C, ST, RN⟩ := RAZ.store hjl
          obtain ⟨cur, hcur, _⟩ := RAZ.cur
          have NB : BX ≠ g1 := fun e => by have h9 := hcur; rw [← e, GZ] at h9; simp at h9
          have FIN : Hid (Below w.heap.size w (z.setRow g1 C) ∧ p ≤ (z.setRow g1 C).heap.size ∧ Md (z.setRow g1 C) p p q r S' S' ∧ (z.setRow g1 C).heap[BX]? = some (.cells x.A 51 (0, 0)) ∧ Rw (z.setRow g1 C) 54 g1 o1 (j + 1) l ∧ Rw (z.setRow g1 C) 58 g2 o2 (j + 1) l) := ⟨below_setRow BZ NG.out.2 _, by rw [size_setRow]; exact LZ, MZ.oth ((Kp.refl [g1] _).row g1 C (.inl (by simp))) hcur (by decide) (by decide) (by decide) (by decide), sh11 NB GZ, RN, RBZ.succ.other (Ne.symm NG.out.1)⟩
          clear z0 BZ LZ MZ GZ RAZ RBZ RN hcur NB HR HE Bj Lj
          go_wp2_with (refine wpList_store_by rfl 54 _ _ rfl ⟨g1, o1 + j * 3, none⟩ _ rfl rfl ST ?_)
          exact ⟨⟨j + 1, by omega, by go_num, FIN.out⟩, by simp [intOf]; omega⟩
        · obtain rfl : j = l.length := by omega
          have MH : Hid (Md wr p p q r S' S') := Mj
          clear Mj RAj RBj
          have T1 : Hid _ := tells_any MH.out ZN.out x.nd XO.out.2.1.1
          have T2 : Hid (∀ W, Below wr.heap.size wr W → Calls Try.prog 26 #[pt p, pt q, .int .u8 1] W fun e w' => e = .returned (.bool true) ∧ Below W.heap.size W w') := fun W hW => tells_any ((MH.out).next hW) ZN.out 1 (by decide)
          have NEW : Hid (∀ W, Below wr.heap.size wr W → ∃ S, Z0 S ∧ Md W p p q r S S) := fun W hW => ⟨_, ZN.out, (MH.out).next hW⟩
          have cB := (Ox.cells Gj).2.1
          have lB := lt_of_heap Gj
          go_wp2_with fail
          refine Calls.mono T1.out ?_
          rintro e wt ⟨rfl, bt⟩
          go_wp2_with fail
          refine Calls.mono (T2.out _ bt) ?_
          rintro e wu ⟨rfl, bu⟩
          have BU := Below.andThen bt bu
          have FB : Below w.heap.size w wu := Below.andThen Bj BU
          have FL : p ≤ wu.heap.size := by have := BU.size; have := Lj; omega
          have FN := NEW.out _ BU
          clear T1 T2 NEW bt bu BU cB lB
          go_wp2_with fail
          exact ⟨⟨i + 1, by omega, by go_num, FB, FL, FN⟩, by simp [intOf]; omega⟩

theorem heartWatches_any (ad : Option Addr) (len cap : Nat) (L : List Ox) (w : World) (o : IsOx w ad len L) : Calls Try.prog 4 #[.slice ad len cap] w fun e w' => e = .returned (.bool true) ∧ Below w.heap.size w w' := by
  by_cases hl : 300 < len
  · exact watches_many ad len cap w hl
  · exact watches_few ad len cap L w o (by omega)
#print axioms heartWatches_any
end Go.Proofs.Ytjdfacjfpdfafaa
