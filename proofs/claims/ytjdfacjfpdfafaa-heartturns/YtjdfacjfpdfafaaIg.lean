/-
  HeartTurns of any row of calls.
-/
import Derived.Test.YtjdfacjfpdfafaaIg0
namespace Go.Proofs.Ytjdfacjfpdfafaa
open Go.RowKit

/-- No node is here. -/
def F256 : List Bool := List.replicate 256 false
theorem kn_F : kn noneS = F256 := kn_none
theorem mk256 (w : World) : (Instr.makeSlice 73 (.int .i64 256) (.int .i64 256)).run Try.prog w = .ok (.slice (some ⟨w.heap.size, 0, none⟩) 256 256) (w.alloc (.cells (BR F256) 4)) := by kernel_rfl
set_option linter.unusedSimpArgs false in
set_option maxHeartbeats 4000000 in
set_option maxRecDepth 100000 in
theorem turns_many (ad : Option Addr) (len cap : Nat) (w : World) (hl : 300 < len) : Calls Try.prog 6 #[.slice ad len cap] w fun e w' => e = .returned (.bool true) ∧ Below w.heap.size w w' := by
  have hl' : (300 : Int) < (len : Int) := by omega
  clear hl
  have NW := fun W => newW_any W
  go_enter Try.func6, Try.ntmps6
  go_wp2_with fail
  refine (NW _).mono ?_
  rintro e w1 ⟨rfl, iw, b1⟩
  go_wp2_with fail
  refine (works_any _).mono ?_
  rintro e w' ⟨rfl, hb9⟩
  go_wp2_with fail
  go_ret
  exact ⟨rfl, Below.andThen b1 hb9⟩
set_option linter.unusedSimpArgs false in
set_option maxHeartbeats 40000000 in
set_option maxRecDepth 100000 in
theorem turns_few (ad : Option Addr) (len cap : Nat) (L : List Ox) (w : World) (o : IsOx w ad len L) (hl : len ≤ 300) : Calls Try.prog 6 #[.slice ad len cap] w fun e w' => e = .returned (.bool true) ∧ Below w.heap.size w w' := by
  have hl' : ¬ (300 : Int) < (len : Int) := by omega
  have NW := fun W => newW_any W
  have O : Hid (IsOx w ad len L) := o
  have lsz := o.size
  clear o
  go_enter Try.func6, Try.ntmps6
  go_wp2_with fail
  refine (NW _).mono ?_
  rintro e w1 ⟨rfl, iw, b1⟩
  obtain ⟨p, hp⟩ : ∃ p, Hid (p = w.heap.size) := ⟨_, rfl⟩
  rw [← hp.out] at iw ⊢
  obtain ⟨hb, hhb⟩ : ∃ hb, Hid (hb = w1.heap.size) := ⟨_, rfl⟩
  have LP : Hid (w.heap.size ≤ p ∧ w.heap.size ≤ hb) := by show _ ∧ _; have := b1.size; have := hp.out; have := hhb.out; omega
  have B2 : Below w.heap.size w (w1.alloc (.cells (BR F256) 4)) := Below.al b1 _
  have M0 : Hid (Tn (w1.alloc (.cells (BR F256) 4)) p hb noneS (kn noneS)) := ⟨⟨_, iw.next (Below.al (Below.refl _ _) _)⟩, by rw [kn_F]; exact at11 _ _ _ hhb.out, kn_len _⟩
  have L0 : p ≤ (w1.alloc (.cells (BR F256) 4)).heap.size := by have := B2.size; have := hp.out; omega
  have MK := mk256 w1
  clear hp iw b1 NW
  go_wp2_with fail
  rw [← hhb.out]
  generalize hw2 : (w1.alloc (.cells (BR F256) 4) : World) = w2 at B2 M0 L0 ⊢
  clear hw2 MK hhb
  go_loopw [5] (fun u wr => ∃ i : Nat, i ≤ len ∧ u = .int .i64 i ∧ Below w.heap.size w wr ∧ p ≤ wr.heap.size ∧ ∃ S, Z0 S ∧ Tn wr p hb S (kn S)) (fun u _ => len - (intOf u).toNat)
  case atStart => exact ⟨0, Nat.zero_le _, rfl, B2, L0, noneS, (fun x hx => by rw [noneS_get (by decide)] at hx; cases hx; rfl), M0.out⟩
  case round =>
    clear M0 B2 L0
    obtain ⟨i, hil, rfl, B, LL, S, ZS, MS⟩ := hrel
    have M0 : Hid (Tn wr p hb S (kn S)) := MS
    have ZH : Hid (Z0 S) := ZS
    clear MS ZS
    by_cases hlt : i < len
    rotate_left
    · have g1 : ¬ (i : Int) < (len : Int) := by omega
      go_wp2_with fail
      refine (works_any _).mono ?_
      rintro e w' ⟨rfl, hb9⟩
      go_wp2_with fail
      go_ret
      exact ⟨rfl, Below.andThen B hb9⟩
    have g1 : (i : Int) < (len : Int) := by omega
    obtain ⟨x, hx⟩ : ∃ x, L[i]? = some x := ⟨L[i]'(by omega), List.getElem?_eq_getElem _⟩
    have XO : Hid x.Ok := O.out.good x (List.mem_of_getElem? hx)
    obtain ⟨b, off, e2, hc⟩ := (O.out.next B).at_ (by omega)
    have c0 := hc i x hx 0 _ rfl
    have c1 := hc i x hx 1 _ rfl
    have c2 := hc i x hx 2 _ rfl
    have c3 := hc i x hx 3 _ rfl
    have c4 := hc i x hx 4 _ rfl
    have c5 := hc i x hx 5 _ rfl
    have c6 := hc i x hx 6 _ rfl
    have c7 := hc i x hx 7 _ rfl
    have c8 := hc i x hx 8 _ rfl
    have c9 := hc i x hx 9 _ rfl
    have c10 := hc i x hx 10 _ rfl
    have c11 := hc i x hx 11 _ rfl
    have c12 := hc i x hx 12 _ rfl
    have c13 := hc i x hx 13 _ rfl
    have c14 := hc i x hx 14 _ rfl
    have c15 := hc i x hx 15 _ rfl
    have lbr : b < wr.heap.size := block_lt_of_cell c0
    clear hc hx
    subst e2
    rw [Nat.add_zero] at c0
    obtain ⟨k8, hk8⟩ : ∃ k8, Hid (x.k.tmod 8 = k8) := ⟨_, rfl⟩
    have R1 := hk8.out
    have Y0 : Below w.heap.size w (wr.alloc (.cells x.A 51)) := Below.al B _
    have MY := M0.out.next (Below.al (Below.refl _ _) (.cells x.A 51))
    have gB0 := at11 wr (.cells x.A 51) wr.heap.size rfl
    have LY : p ≤ (wr.alloc (.cells x.A 51)).heap.size := by simp; omega
    clear M0 hk8
    obtain ⟨BX, hBX⟩ : ∃ BX, Hid (BX = wr.heap.size) := ⟨_, rfl⟩
    rw [← hBX.out] at gB0
    by_cases h2 : k8 < 2
    · obtain ⟨rs, S', Z', K0, K1, SP0⟩ := set_tn (p := p) (hb := hb) ZH.out MY.sl x.nd x.N XO.out.2.1.1
      have SP : Hid _ := SP0
      have ZN : Hid (Z0 S') := Z'
      have KK : Hid _ := And.intro K0 K1
      clear SP0 Z' K0 K1
      have nd0 := XO.out.2.1
      have nd1 : x.nd < 256 := nd0.2
      have nd2 : 0 ≤ x.nd := nd0.1
      clear nd0
      go_wp2_with fail
      rw [← hBX.out]
      generalize hy : (wr.alloc (.cells x.A 51) : World) = y at Y0 MY gB0 LY ⊢
      clear hy hBX lbr B LL c0 c1 c2 c3 c4 c5 c6 c7 c8 c9 c10 c11 c12 c13 c14 c15
      obtain ⟨wo, rfl⟩ : ∃ z, z = wr := ⟨_, rfl⟩
      have MY : Hid (Tn y p hb S (kn S)) := MY
      obtain ⟨y0, y1, y3, y4⟩ := Ox.cells gB0
      have lBX := lt_of_heap gB0
      refine Calls.mono (SP.out _ MY.out LY) ?_
      rintro e w3 ⟨rfl, M3, k3⟩
      have B3 : Below w.heap.size w w3 := Kt.up Y0 k3 LP.out.1 Y0.size
      have L3 : p ≤ w3.heap.size := Nat.le_trans LY k3.size
      have gX := k3.typ _ _ _ _ gB0 (by decide) (by decide)
      clear k3 SP MY gB0 Y0 LY y0 y1 y3 y4 lBX
      by_cases hr : rs = 0
      · have eK : kn S' = (kn S).set x.nd.toNat false := KK.out.1 hr
        obtain ⟨m, hm⟩ : ∃ m : Nat, x.nd = (m : Int) := ⟨x.nd.toNat, by omega⟩
        rw [show x.nd.toNat = m from by omega] at eK
        have gm : (m : Int) < 256 := by omega
        have gm0 : (0 : Int) ≤ (m : Int) := by omega
        have gmn : m < 256 := by omega
        have y1 := (Ox.cells gX).2.1
        rw [hm] at y1
        have lBX := lt_of_heap gX
        have zH := froz11 w3 hb m _ _ M3.h
        obtain ⟨bb, hbb⟩ : ∃ bb, (kn S)[m]? = some bb := ⟨_, kn_get S gmn⟩
        have cH := BR_cell M3.h hbb
        have lH := block_lt_of_cell cH
        have M4 := M3.put m false
        rw [← eK] at M4
        have B4 : Below w.heap.size w (w3.setCell ⟨hb, m, none⟩ (.bool false)) := Below.setCell B3 LP.out.2 _
        have L4 : p ≤ (w3.setCell ⟨hb, m, none⟩ (.bool false)).heap.size := by simp [World.setCell]; omega
        have F4 : Hid (Below w.heap.size w (w3.setCell ⟨hb, m, none⟩ (.bool false)) ∧ p ≤ (w3.setCell ⟨hb, m, none⟩ (.bool false)).heap.size ∧ Tn (w3.setCell ⟨hb, m, none⟩ (.bool false)) p hb S' (kn S')) := ⟨B4, L4, M4⟩
        subst hr
        clear M4 B4 L4 eK KK hbb
        go_wp2_with fail
        clear M3 B3 L3 gX y1 lBX zH cH lH
        generalize hq : (w3.setCell ⟨hb, m, none⟩ (.bool false) : World) = wq at F4 ⊢
        clear hq
        have FN : Hid (Below w.heap.size w wq ∧ p ≤ wq.heap.size ∧ Tn wq p hb S' (kn S')) := ⟨F4.out.1, F4.out.2.1, F4.out.2.2⟩
        go_loopw [11] (fun u wr => u = .int .i64 0 ∧ wr = wq) (fun _ _ => 0)
        case atStart => exact ⟨rfl, rfl⟩
        case round =>
          obtain ⟨rfl, rfl⟩ := hrel
          obtain ⟨wz, rfl⟩ : ∃ z, z = wr := ⟨_, rfl⟩
          have F3 : Hid (Below w.heap.size w wz ∧ p ≤ wz.heap.size ∧ Z0 S' ∧ Tn wz p hb S' (kn S')) := ⟨FN.out.1, FN.out.2.1, ZN.out, FN.out.2.2⟩
          go_wp2_with fail
          go_loopw [13] (fun nv wr => ∃ n : Nat, n ≤ 256 ∧ nv = .int .i64 (n : Int) ∧ wr = wz) (fun nv _ => 256 - (intOf nv).toNat)
          case atStart => exact ⟨0, Nat.zero_le _, rfl, rfl⟩
          case round =>
            obtain ⟨n, hn, rfl, rfl⟩ := hrel
            by_cases hn2 : n < 256
            · have gn : (n : Int) < 256 := by omega
              have gn0 : (0 : Int) ≤ (n : Int) := by omega
              have wk : IntKind.i64.wrap ((n : Int) + 1) = ((n + 1 : Nat) : Int) := by rw [IntKind.wrap_i64]; omega
              have wu : IntKind.u8.wrap (n : Int) = (n : Int) := by rw [IntKind.wrap_u8]; omega
              have cH := BR_cell F3.out.2.2.2.h (kn_get S' hn2)
              obtain ⟨P9, h9⟩ := F3.out.2.2.2.w_
              have SA := state_any h9 (n : Int) (by omega)
              obtain ⟨b1, hb1⟩ : ∃ b1, b1 = (stV S' (n : Int)).1 := ⟨_, rfl⟩
              obtain ⟨b2, hb2⟩ : ∃ b2, b2 = (stV S' (n : Int)).2 := ⟨_, rfl⟩
              rw [← hb1, ← hb2] at SA
              rw [← hb2] at cH
              have SAH : Hid _ := SA
              have lcH := block_lt_of_cell cH
              clear SA h9 hb1 hb2
              go_wp2_with fail
              refine Calls.mono SAH.out ?_
              rintro e w9 ⟨rfl, rfl⟩
              clear SAH
              go_wp2_with fail
              exact ⟨⟨n + 1, by omega, by go_num, trivial⟩, by simp [intOf]; omega⟩
            · obtain rfl : n = 256 := by omega
              go_wp2_with fail
              exact ⟨⟨i + 1, by omega, by go_num, F3.out.1, F3.out.2.1, S', F3.out.2.2.1, F3.out.2.2.2⟩, by simp [intOf]; omega⟩
      · have eK : kn S' = kn S := KK.out.2 hr
        rw [← eK] at M3
        have hr2 : (rs == 0) = false := by simpa using hr
        clear eK KK gX
        have FN : Hid (Below w.heap.size w w3 ∧ p ≤ w3.heap.size ∧ Tn w3 p hb S' (kn S')) := ⟨B3, L3, M3⟩
        go_wp2_with fail
        go_loopw [11] (fun u wr => u = .int .i64 0 ∧ wr = w3) (fun _ _ => 0)
        case atStart => exact ⟨rfl, rfl⟩
        case round =>
          obtain ⟨rfl, rfl⟩ := hrel
          obtain ⟨wz, rfl⟩ : ∃ z, z = wr := ⟨_, rfl⟩
          have F3 : Hid (Below w.heap.size w wz ∧ p ≤ wz.heap.size ∧ Z0 S' ∧ Tn wz p hb S' (kn S')) := ⟨FN.out.1, FN.out.2.1, ZN.out, FN.out.2.2⟩
          go_wp2_with fail
          go_loopw [13] (fun nv wr => ∃ n : Nat, n ≤ 256 ∧ nv = .int .i64 (n : Int) ∧ wr = wz) (fun nv _ => 256 - (intOf nv).toNat)
          case atStart => exact ⟨0, Nat.zero_le _, rfl, rfl⟩
          case round =>
            obtain ⟨n, hn, rfl, rfl⟩ := hrel
            by_cases hn2 : n < 256
            · have gn : (n : Int) < 256 := by omega
              have gn0 : (0 : Int) ≤ (n : Int) := by omega
              have wk : IntKind.i64.wrap ((n : Int) + 1) = ((n + 1 : Nat) : Int) := by rw [IntKind.wrap_i64]; omega
              have wu : IntKind.u8.wrap (n : Int) = (n : Int) := by rw [IntKind.wrap_u8]; omega
              have cH := BR_cell F3.out.2.2.2.h (kn_get S' hn2)
              obtain ⟨P9, h9⟩ := F3.out.2.2.2.w_
              have SA := state_any h9 (n : Int) (by omega)
              obtain ⟨b1, hb1⟩ : ∃ b1, b1 = (stV S' (n : Int)).1 := ⟨_, rfl⟩
              obtain ⟨b2, hb2⟩ : ∃ b2, b2 = (stV S' (n : Int)).2 := ⟨_, rfl⟩
              rw [← hb1, ← hb2] at SA
              rw [← hb2] at cH
              have SAH : Hid _ := SA
              have lcH := block_lt_of_cell cH
              clear SA h9 hb1 hb2
              go_wp2_with fail
              refine Calls.mono SAH.out ?_
              rintro e w9 ⟨rfl, rfl⟩
              clear SAH
              go_wp2_with fail
              exact ⟨⟨n + 1, by omega, by go_num, trivial⟩, by simp [intOf]; omega⟩
            · obtain rfl : n = 256 := by omega
              go_wp2_with fail
              exact ⟨⟨i + 1, by omega, by go_num, F3.out.1, F3.out.2.1, S', F3.out.2.2.1, F3.out.2.2.2⟩, by simp [intOf]; omega⟩
    by_cases h6 : k8 < 6
    · obtain ⟨ea, ek, es, ok, S', Z', K0, K1, SP0⟩ := hear_tn (p := p) (hb := hb) ZH.out MY.sl x.fr (Ox.fr_ok XO.out).1 (Ox.fr_ok XO.out).2 x.now
      have SP : Hid _ := SP0
      have ZN : Hid (Z0 S') := Z'
      have KK : Hid _ := And.intro K0 K1
      clear SP0 Z' K0 K1
      have OF : Hid (∀ W, Calls Try.prog 21 #[.agg x.A] W fun e w' => e = .returned x.fr.V ∧ Below W.heap.size W w') := fun W => opf_any x XO.out W
      go_wp2_with fail
      rw [← hBX.out]
      generalize hy : (wr.alloc (.cells x.A 51) : World) = y at Y0 MY gB0 LY ⊢
      clear hy hBX lbr B LL c0 c1 c2 c3 c4 c5 c6 c7 c8 c9 c10 c11 c12 c13 c14 c15
      obtain ⟨wo, rfl⟩ : ∃ z, z = wr := ⟨_, rfl⟩
      have MY : Hid (Tn y p hb S (kn S)) := MY
      obtain ⟨y0, y1, y3, y4⟩ := Ox.cells gB0
      have lBX := lt_of_heap gB0
      have My0 := MY.out.next (Below.drew (Below.refl _ _))
      have By0 : Below w.heap.size w y.drew := Below.drew Y0
      have Ly0 : p ≤ y.drew.heap.size := LY
      clear y0 y1 y3 y4 lBX
      refine wp_region_held_drew (S := fun x1 => x1.heap[BX]? = some (.cells x.A 51 (0, 0))) (by kernel_rfl) (gB0) (fun hHeld => ?_)
      refine wpAnyH_take (i := 0) (v := (pt p)) rfl (by kernel_rfl) (by kernel_rfl) (by kernel_rfl) (fun _ _ _ h => h) (Or.inl ⟨by rfl, ?_⟩) (by assumption) ?_
      · intro w9 hSw
        try dsimp only at hSw
        go_simp
        all_goals try decide
        all_goals try assumption
        all_goals try omega
      try simp only [Act.put, List.getElem_toArray, List.getElem_cons_succ, List.getElem_cons_zero, List.setIfInBounds_toArray, List.set_cons_zero, List.set_cons_succ]
      refine wpAnyH_take (i := 1) (v := (.agg x.A)) rfl (by kernel_rfl) (by kernel_rfl) (by kernel_rfl) (fun _ _ _ h => h) (Or.inl ⟨by rfl, ?_⟩) (by assumption) ?_
      · intro w9 hSw
        try dsimp only at hSw
        exact ex_load11 51 (.tmp 6) rfl _ _ rfl (loadO hSw)
      try simp only [Act.put, List.getElem_toArray, List.getElem_cons_succ, List.getElem_cons_zero, List.setIfInBounds_toArray, List.set_cons_zero, List.set_cons_succ]
      refine wpAnyH_take (i := 3) (v := (.pointer (some ⟨BX, 4, none⟩))) rfl (by kernel_rfl) (by kernel_rfl) (by kernel_rfl) (fun _ _ _ h => h) (Or.inl ⟨by rfl, ?_⟩) (by assumption) ?_
      · intro w9 hSw
        try dsimp only at hSw
        go_simp
        all_goals try decide
        all_goals try assumption
        all_goals try omega
      try simp only [Act.put, List.getElem_toArray, List.getElem_cons_succ, List.getElem_cons_zero, List.setIfInBounds_toArray, List.set_cons_zero, List.set_cons_succ]
      refine wpAnyH_take (i := 4) (v := (.int .i64 x.now)) rfl (by kernel_rfl) (by kernel_rfl) (by kernel_rfl) (fun _ _ _ h => h) (Or.inl ⟨by rfl, ?_⟩) (by assumption) ?_
      · intro w9 hSw
        try dsimp only at hSw
        obtain ⟨hc0, hc1, hc3, hc4⟩ := Ox.cells hSw
        go_simp
        all_goals try assumption
      try simp only [Act.put, List.getElem_toArray, List.getElem_cons_succ, List.getElem_cons_zero, List.setIfInBounds_toArray, List.set_cons_zero, List.set_cons_succ]
      refine wpAnyH_ready (rs := [2, 9]) (by kernel_rfl) (by simp) ?_
      refine AllReadyH.cons rfl (fun K' hK => ?_) (AllReadyH.cons rfl (fun K' hK => ?_) AllReadyH.nil)
      · rw [if_pos (by rfl)]
        simp only [List.getElem_toArray, List.getElem_cons_succ, List.getElem_cons_zero]
        have S0 := hHeld
        go_wp2_with fail
        refine Calls.mono (OF.out _) ?_
        rintro e wfP1 ⟨rfl, hbP1⟩
        try go_wp2_with fail
        have MP1 := (My0).next hbP1
        have BP1 : Below w.heap.size w wfP1 := Below.andThen By0 hbP1
        have LP1 : p ≤ wfP1.heap.size := Nat.le_trans Ly0 hbP1.size
        refine hK.out _ _ (blk11 hbP1 S0) (fun hHeld => ?_)
        clear hK K'
        try simp only [Act.put, List.getElem_toArray, List.getElem_cons_succ, List.getElem_cons_zero, List.setIfInBounds_toArray, List.set_cons_zero, List.set_cons_succ]
        clear hbP1
        refine wpAnyH_ready (rs := [5, 9]) (by kernel_rfl) (by simp) ?_
        refine AllReadyH.cons rfl (fun K' hK => ?_) (AllReadyH.cons rfl (fun K' hK => ?_) AllReadyH.nil)
        · rw [if_pos (by rfl)]
          simp only [List.getElem_toArray, List.getElem_cons_succ, List.getElem_cons_zero]
          have S0 := hHeld
          go_wp2_with fail
          refine Calls.mono (SP.out _ MP1) ?_
          rintro e wfP2 ⟨rfl, MP2, kP2⟩
          try go_wp2_with fail
          have BP2 : Below w.heap.size w wfP2 := Kt.up BP1 kP2 LP.out.1 (BP1).size
          have LP2 : p ≤ wfP2.heap.size := Nat.le_trans LP1 kP2.size
          refine hK.out _ _ (kP2.typ _ _ _ _ S0 (by decide) (by decide)) (fun hHeld => ?_)
          clear hK K'
          try simp only [Act.put, List.getElem_toArray, List.getElem_cons_succ, List.getElem_cons_zero, List.setIfInBounds_toArray, List.set_cons_zero, List.set_cons_succ]
          clear kP2
          refine wpAnyH_take (i := 6) (v := (.tuple #[.agg (evA ea ek es), .bool ok])) rfl (by kernel_rfl) (by kernel_rfl) (by kernel_rfl) (fun _ _ _ h => h) (Or.inl ⟨by rfl, ?_⟩) (by assumption) ?_
          · intro w9 hSw
            try dsimp only at hSw
            go_simp
            all_goals try decide
            all_goals try assumption
            all_goals try omega
          try simp only [Act.put, List.getElem_toArray, List.getElem_cons_succ, List.getElem_cons_zero, List.setIfInBounds_toArray, List.set_cons_zero, List.set_cons_succ]
          refine wpAnyH_take (i := 7) (v := (.agg (evA ea ek es))) rfl (by kernel_rfl) (by kernel_rfl) (by kernel_rfl) (fun _ _ _ h => h) (Or.inl ⟨by rfl, ?_⟩) (by assumption) ?_
          · intro w9 hSw
            try dsimp only at hSw
            go_simp
            all_goals try decide
            all_goals try assumption
            all_goals try omega
          try simp only [Act.put, List.getElem_toArray, List.getElem_cons_succ, List.getElem_cons_zero, List.setIfInBounds_toArray, List.set_cons_zero, List.set_cons_succ]
          refine wpAnyH_take (i := 8) (v := (.bool ok)) rfl (by kernel_rfl) (by kernel_rfl) (by kernel_rfl) (fun _ _ _ h => h) (Or.inl ⟨by rfl, ?_⟩) (by assumption) ?_
          · intro w9 hSw
            try dsimp only at hSw
            go_simp
            all_goals try decide
            all_goals try assumption
            all_goals try omega
          try simp only [Act.put, List.getElem_toArray, List.getElem_cons_succ, List.getElem_cons_zero, List.setIfInBounds_toArray, List.set_cons_zero, List.set_cons_succ]
          refine wpAnyH_ready (rs := [9]) (by kernel_rfl) (by simp) ?_
          refine AllReadyH.cons rfl (fun K' hK => ?_) AllReadyH.nil
          rw [if_pos (by rfl)]
          simp only [List.getElem_toArray, List.getElem_cons_succ, List.getElem_cons_zero]
          have S0 := hHeld
          go_wp2_with fail
          refine hK.out _ _ ((blk11 ((by repeat (first | exact Below.refl _ _ | apply Below.drew | apply Below.al)) : Below wfP2.heap.size wfP2 (wfP2.alloc (.cells (evA 0 0 0) 54))) S0)) (fun hHeld => ?_)
          clear hK K'
          try simp only [Act.put, List.getElem_toArray, List.getElem_cons_succ, List.getElem_cons_zero, List.setIfInBounds_toArray, List.set_cons_zero, List.set_cons_succ]
          have MP3 := (MP2).next ((by repeat (first | exact Below.refl _ _ | apply Below.drew | apply Below.al)) : Below wfP2.heap.size wfP2 (wfP2.alloc (.cells (evA 0 0 0) 54)))
          have BP3 : Below w.heap.size w (wfP2.alloc (.cells (evA 0 0 0) 54)) := Below.andThen BP2 ((by repeat (first | exact Below.refl _ _ | apply Below.drew | apply Below.al)) : Below wfP2.heap.size wfP2 (wfP2.alloc (.cells (evA 0 0 0) 54)))
          have AP3 : (wfP2.alloc (.cells (evA 0 0 0) 54)).heap[wfP2.heap.size]? = some (.cells (evA 0 0 0) 54 (0, 0)) := at11 _ _ _ rfl
          have LP3 : p ≤ (wfP2.alloc (.cells (evA 0 0 0) 54)).heap.size := Nat.le_trans LP2 ((by repeat (first | exact Below.refl _ _ | apply Below.drew | apply Below.al)) : Below wfP2.heap.size wfP2 (wfP2.alloc (.cells (evA 0 0 0) 54))).size
          have LbP3 : Hid (w.heap.size ≤ wfP2.heap.size) := (BP2).size
          obtain ⟨BBP, hBBP3⟩ : ∃ BB, BB = wfP2.heap.size := ⟨_, rfl⟩
          rw [← hBBP3] at AP3 LbP3 ⊢
          clear hBBP3
          generalize hzP3 : ((wfP2.alloc (.cells (evA 0 0 0) 54)) : World) = wfP3 at MP3 BP3 AP3 LP3 hHeld ⊢
          clear hzP3
          refine wpAnyH_ready (rs := [10]) (by kernel_rfl) (by simp) ?_
          refine AllReadyH.cons rfl (fun K' hK => ?_) AllReadyH.nil
          rw [if_pos (by rfl)]
          simp only [List.getElem_toArray, List.getElem_cons_succ, List.getElem_cons_zero]
          have S0 := hHeld
          have nBP4 : BX ≠ BBP := fun e => by have h9 := AP3; rw [← e, S0] at h9; simp at h9
          refine wp_store_row 54 (.tmp 9) (.tmp 67) rfl BBP (evA ea ek es) rfl rfl 54 _ AP3 infoT rfl (evA_one _ _ _) ?_
          refine hK.out _ _ ((sh11 nBP4 S0)) (fun hHeld => ?_)
          clear hK K'
          try simp only [Act.put, List.getElem_toArray, List.getElem_cons_succ, List.getElem_cons_zero, List.setIfInBounds_toArray, List.set_cons_zero, List.set_cons_succ]
          have MP4 := (MP3).oth ((Kp.refl [BBP] _).row BBP (evA ea ek es) (.inl (by simp))) AP3 (by decide) (by decide) (by decide)
          have BP4 : Below w.heap.size w (wfP3.setRow BBP (evA ea ek es)) := below_setRow BP3 LbP3.out _
          have AP4 := setRow_heap _ _ _ (evA ea ek es) _ _ AP3
          have LP4 : p ≤ (wfP3.setRow BBP (evA ea ek es)).heap.size := by have := LP3; rw [size_setRow]; omega
          generalize hzP4 : ((wfP3.setRow BBP (evA ea ek es)) : World) = wfP4 at MP4 BP4 AP4 LP4 hHeld ⊢
          clear hzP4
          refine wpAnyH_take (i := 11) (v := (.bool ok)) rfl (by kernel_rfl) (by kernel_rfl) (by kernel_rfl) (fun _ _ _ h => h) (Or.inl ⟨by rfl, ?_⟩) (by assumption) ?_
          · intro w9 hSw
            try dsimp only at hSw
            go_simp
            all_goals try decide
            all_goals try assumption
            all_goals try omega
          try simp only [Act.put, List.getElem_toArray, List.getElem_cons_succ, List.getElem_cons_zero, List.setIfInBounds_toArray, List.set_cons_zero, List.set_cons_succ]
          refine wpAnyH_done (by kernel_rfl) ?_ _
          have gX := hHeld
          clear hHeld
          have MW : Hid (Tn wfP4 p hb S' (kn S)) := MP4
          have BW : Below w.heap.size w wfP4 := BP4
          have LW : p ≤ wfP4.heap.size := LP4
          cases ok with
          | false =>
            have eK : kn S = kn S' := KK.out.1 rfl
            have MN : Tn wfP4 p hb S' (kn S') := by have := MW.out; rw [eK] at this; exact this
            clear eK KK gX
            have FN : Hid (Below w.heap.size w wfP4 ∧ p ≤ wfP4.heap.size ∧ Tn wfP4 p hb S' (kn S')) := ⟨BW, LW, MN⟩
            go_wp2_with fail
            go_loopw [11] (fun u wr => u = .int .i64 0 ∧ wr = wfP4) (fun _ _ => 0)
            case atStart => exact ⟨rfl, rfl⟩
            case round =>
              obtain ⟨rfl, rfl⟩ := hrel
              obtain ⟨wz, rfl⟩ : ∃ z, z = wr := ⟨_, rfl⟩
              have F3 : Hid (Below w.heap.size w wz ∧ p ≤ wz.heap.size ∧ Z0 S' ∧ Tn wz p hb S' (kn S')) := ⟨FN.out.1, FN.out.2.1, ZN.out, FN.out.2.2⟩
              go_wp2_with fail
              go_loopw [13] (fun nv wr => ∃ n : Nat, n ≤ 256 ∧ nv = .int .i64 (n : Int) ∧ wr = wz) (fun nv _ => 256 - (intOf nv).toNat)
              case atStart => exact ⟨0, Nat.zero_le _, rfl, rfl⟩
              case round =>
                obtain ⟨n, hn, rfl, rfl⟩ := hrel
                by_cases hn2 : n < 256
                · have gn : (n : Int) < 256 := by omega
                  have gn0 : (0 : Int) ≤ (n : Int) := by omega
                  have wk : IntKind.i64.wrap ((n : Int) + 1) = ((n + 1 : Nat) : Int) := by rw [IntKind.wrap_i64]; omega
                  have wu : IntKind.u8.wrap (n : Int) = (n : Int) := by rw [IntKind.wrap_u8]; omega
                  have cH := BR_cell F3.out.2.2.2.h (kn_get S' hn2)
                  obtain ⟨P9, h9⟩ := F3.out.2.2.2.w_
                  have SA := state_any h9 (n : Int) (by omega)
                  obtain ⟨b1, hb1⟩ : ∃ b1, b1 = (stV S' (n : Int)).1 := ⟨_, rfl⟩
                  obtain ⟨b2, hb2⟩ : ∃ b2, b2 = (stV S' (n : Int)).2 := ⟨_, rfl⟩
                  rw [← hb1, ← hb2] at SA
                  rw [← hb2] at cH
                  have SAH : Hid _ := SA
                  have lcH := block_lt_of_cell cH
                  clear SA h9 hb1 hb2
                  go_wp2_with fail
                  refine Calls.mono SAH.out ?_
                  rintro e w9 ⟨rfl, rfl⟩
                  clear SAH
                  go_wp2_with fail
                  exact ⟨⟨n + 1, by omega, by go_num, trivial⟩, by simp [intOf]; omega⟩
                · obtain rfl : n = 256 := by omega
                  go_wp2_with fail
                  exact ⟨⟨i + 1, by omega, by go_num, F3.out.1, F3.out.2.1, S', F3.out.2.2.1, F3.out.2.2.2⟩, by simp [intOf]; omega⟩
          | true =>
            obtain ⟨gd, pl⟩ := KK.out.2 rfl
            have ge : wfP4.heap[BBP]? = some (.cells (evA ea ek es) 54 (0, 0)) := AP4
            have f0 : wfP4.cell? ⟨BBP, 0, none⟩ = some (.int .u8 ea) := by rw [cell_of_row _ _ 0 _ _ _ ge]; rfl
            have f1 : wfP4.cell? ⟨BBP, 1, none⟩ = some (.int .u8 ek) := by rw [cell_of_row _ _ 1 _ _ _ ge]; rfl
            have f2 : wfP4.cell? ⟨BBP, 2, none⟩ = some (.int .u8 es) := by rw [cell_of_row _ _ 2 _ _ _ ge]; rfl
            have lf := lt_of_heap ge
            obtain ⟨l, hl9⟩ : ∃ l, Hid (l = [(⟨ea, ek, es⟩ : Ev)]) := ⟨_, rfl⟩
            have l1 : l.length = 1 := by rw [hl9.out]; rfl
            rw [← hl9.out] at pl
            obtain ⟨i0, hi, hz0, hz1, hz2⟩ := info_parts infoE
            have RUN := fun ty => Own.append (w := (wfP4.alloc (.cells (evA ea ek es) 54))) (ty := ty) Try.underlying62 hi hz0 hz1 hz2 rfl (by decide) (own_nil _ 54 3) ⟨wfP4.heap.size, 0, none⟩ 1 1 [.int .u8 ea, .int .u8 ek, .int .u8 es] rfl (fun i u hu => by rw [add_at, Nat.zero_add]; exact (cell_of_row _ _ i _ _ _ (at11 wfP4 (.cells (evA ea ek es) 54) wfP4.heap.size rfl)).trans (by simpa using hu)) (fun u hu => by simp at hu; rcases hu with rfl | rfl | rfl <;> rfl) (by decide) (by decide) (by decide)
            obtain ⟨g, o, q, w9, rr, hO, _, hK⟩ := RUN 62
            rw [show 0 + 1 = l.length from by omega] at rr hO
            have O1 : OwnAt w9 54 3 g o l.length q (evC l) := by have h8 := hO; rw [show ([] : List Value) ++ [.int .u8 ea, .int .u8 ek, .int .u8 es] = evC l from by rw [hl9.out]; rfl] at h8; exact h8
            have KB : Below wfP4.heap.size wfP4 w9 := Below.andThen (Below.al (Below.refl _ _) _) (Kp.bel hK)
            have M9 : Hid (Tn w9 p hb S' (kn S)) := MW.out.next KB
            have B9 : Below w.heap.size w w9 := Below.andThen BW KB
            have L9 : p ≤ w9.heap.size := Nat.le_trans LW KB.size
            have l8' : (l.length : Int) ≤ 128 := by omega
            have l8 : l.length ≤ 128 := by omega
            have PL : Hid (play (kn S) l = some (kn S')) := pl
            have GG : Hid (∀ e ∈ l, 0 ≤ e.n ∧ e.n < 256) := by show ∀ e ∈ l, _; rw [hl9.out]; intro e he; simp at he; subst he; exact gd
            have O1 : Hid _ := O1
            clear RUN hi hz0 hz1 hz2 hO hK KB pl gd hl9 MW BW LW KK gX ge l1
            go_wp2_with (at_builtin; refine wpList_app_by rfl _ _ 62 rfl (.slice none 0 0) (.slice (some ⟨wfP4.heap.size, 0, none⟩) 1 1) rfl rfl _ rr ?_)
            clear rr f0 f1 f2 lf
            have FS : Hid (Below w.heap.size w w9 ∧ p ≤ w9.heap.size ∧ Tn w9 p hb S' (kn S) ∧ Rw w9 54 g o 0 l ∧ play (kn S) (l.drop 0) = some (kn S')) := ⟨B9, L9, M9.out, Rw.of rfl O1.out, by rw [List.drop_zero]; exact PL.out⟩
            have GD : Hid (∀ e ∈ l, 0 ≤ e.n ∧ e.n < 256) := GG.out
            go_wp2_with fail
            go_loopw [11] (fun jv wr => ∃ (j : Nat) (H : List Bool), j ≤ l.length ∧ jv = .int .i64 (j : Int) ∧ Below w.heap.size w wr ∧ p ≤ wr.heap.size ∧ Tn wr p hb S' H ∧ Rw wr 54 g o j l ∧ play H (l.drop j) = some (kn S')) (fun jv _ => l.length - (intOf jv).toNat)
            case atStart => exact ⟨0, _, Nat.zero_le _, rfl, FS.out⟩
            case round =>
              clear FS
              obtain ⟨j, HH, hj, rfl, Bj, Lj, Tj, Rj, Pj⟩ := hrel
              by_cases hjl : j < l.length
              · have gj : (j : Int) < (l.length : Int) := by omega
                have gj0 : (0 : Int) ≤ (j : Int) := by omega
                have wk : IntKind.i64.wrap ((j : Int) + 1) = ((j + 1 : Nat) : Int) := by rw [IntKind.wrap_i64]; omega
                obtain ⟨ev, hev⟩ : ∃ ev, l[j]? = some ev := ⟨_, List.getElem?_eq_getElem hjl⟩
                have ge := GD.out ev (List.mem_of_getElem? hev)
                obtain ⟨m, hm⟩ : ∃ m : Nat, ev.n = (m : Int) := ⟨ev.n.toNat, by omega⟩
                have gm : (m : Int) < 256 := by omega
                have gm0 : (0 : Int) ≤ (m : Int) := by omega
                have gmn : m < 256 := by omega
                obtain ⟨pl1, pl2⟩ := play_cons hev Pj
                rw [show ev.n.toNat = m from by omega] at pl1 pl2
                obtain ⟨bb, hbb⟩ : ∃ bb, HH[m]? = some bb := ⟨_, List.getElem?_eq_getElem (by have := Tj.l; omega)⟩
                rw [hbb] at pl1
                have pl1 : (bb == (ev.k == 1)) = false := pl1
                have cH := BR_cell Tj.h hbb
                have zH := froz11 wr hb m _ _ Tj.h
                have lH := block_lt_of_cell cH
                obtain ⟨f0, f1⟩ := Rj.cells (Nat.le_refl _) hev
                rw [hm] at f0
                have lg := block_lt_of_cell f0
                have FR : Hid (∀ n, Below w.heap.size w ((wr.drewN n).setCell ⟨hb, m, none⟩ (.bool (ev.k != 4))) ∧ p ≤ ((wr.drewN n).setCell ⟨hb, m, none⟩ (.bool (ev.k != 4))).heap.size ∧ Tn ((wr.drewN n).setCell ⟨hb, m, none⟩ (.bool (ev.k != 4))) p hb S' (HH.set m (ev.k != 4)) ∧ Rw ((wr.drewN n).setCell ⟨hb, m, none⟩ (.bool (ev.k != 4))) 54 g o (j + 1) l ∧ play (HH.set m (ev.k != 4)) (l.drop (j + 1)) = some (kn S')) := fun n => turn_step Bj Lj Tj Rj pl2 LP.out.2 n
                clear Tj Rj Pj pl2 hbb hev Bj Lj ge
                go_wp2_with fail
                go_quiet (fail)
                go_wp2_with fail
                exact ⟨⟨j + 1, _, by omega, by go_num, FR.out _⟩, by simp [intOf]; omega⟩
              · obtain rfl : j = l.length := by omega
                rw [List.drop_length] at Pj
                have eH : HH = kn S' := by simp only [play] at Pj; exact Option.some.inj Pj
                subst eH
                have TH : Hid (Tn wr p hb S' (kn S')) := Tj
                clear Tj Rj Pj GD
                obtain ⟨wz, rfl⟩ : ∃ z, z = wr := ⟨_, rfl⟩
                have F3 : Hid (Below w.heap.size w wz ∧ p ≤ wz.heap.size ∧ Z0 S' ∧ Tn wz p hb S' (kn S')) := ⟨Bj, Lj, ZN.out, TH.out⟩
                go_wp2_with fail
                go_loopw [13] (fun nv wr => ∃ n : Nat, n ≤ 256 ∧ nv = .int .i64 (n : Int) ∧ wr = wz) (fun nv _ => 256 - (intOf nv).toNat)
                case atStart => exact ⟨0, Nat.zero_le _, rfl, rfl⟩
                case round =>
                  obtain ⟨n, hn, rfl, rfl⟩ := hrel
                  by_cases hn2 : n < 256
                  · have gn : (n : Int) < 256 := by omega
                    have gn0 : (0 : Int) ≤ (n : Int) := by omega
                    have wk : IntKind.i64.wrap ((n : Int) + 1) = ((n + 1 : Nat) : Int) := by rw [IntKind.wrap_i64]; omega
                    have wu : IntKind.u8.wrap (n : Int) = (n : Int) := by rw [IntKind.wrap_u8]; omega
                    have cH := BR_cell F3.out.2.2.2.h (kn_get S' hn2)
                    obtain ⟨P9, h9⟩ := F3.out.2.2.2.w_
                    have SA := state_any h9 (n : Int) (by omega)
                    obtain ⟨b1, hb1⟩ : ∃ b1, b1 = (stV S' (n : Int)).1 := ⟨_, rfl⟩
                    obtain ⟨b2, hb2⟩ : ∃ b2, b2 = (stV S' (n : Int)).2 := ⟨_, rfl⟩
                    rw [← hb1, ← hb2] at SA
                    rw [← hb2] at cH
                    have SAH : Hid _ := SA
                    have lcH := block_lt_of_cell cH
                    clear SA h9 hb1 hb2
                    go_wp2_with fail
                    refine Calls.mono SAH.out ?_
                    rintro e w9 ⟨rfl, rfl⟩
                    clear SAH
                    go_wp2_with fail
                    exact ⟨⟨n + 1, by omega, by go_num, trivial⟩, by simp [intOf]; omega⟩
                  · obtain rfl : n = 256 := by omega
                    go_wp2_with fail
                    exact ⟨⟨i + 1, by omega, by go_num, F3.out.1, F3.out.2.1, S', F3.out.2.2.1, F3.out.2.2.2⟩, by simp [intOf]; omega⟩
        · rw [if_pos (by rfl)]
          simp only [List.getElem_toArray, List.getElem_cons_succ, List.getElem_cons_zero]
          have S0 := hHeld
          go_wp2_with fail
          refine hK.out _ _ ((blk11 ((by repeat (first | exact Below.refl _ _ | apply Below.drew | apply Below.al)) : Below wfP1.heap.size wfP1 (wfP1.alloc (.cells (evA 0 0 0) 54))) S0)) (fun hHeld => ?_)
          clear hK K'
          try simp only [Act.put, List.getElem_toArray, List.getElem_cons_succ, List.getElem_cons_zero, List.setIfInBounds_toArray, List.set_cons_zero, List.set_cons_succ]
          have MP2 := (MP1).next ((by repeat (first | exact Below.refl _ _ | apply Below.drew | apply Below.al)) : Below wfP1.heap.size wfP1 (wfP1.alloc (.cells (evA 0 0 0) 54)))
          have BP2 : Below w.heap.size w (wfP1.alloc (.cells (evA 0 0 0) 54)) := Below.andThen BP1 ((by repeat (first | exact Below.refl _ _ | apply Below.drew | apply Below.al)) : Below wfP1.heap.size wfP1 (wfP1.alloc (.cells (evA 0 0 0) 54)))
          have AP2 : (wfP1.alloc (.cells (evA 0 0 0) 54)).heap[wfP1.heap.size]? = some (.cells (evA 0 0 0) 54 (0, 0)) := at11 _ _ _ rfl
          have LP2 : p ≤ (wfP1.alloc (.cells (evA 0 0 0) 54)).heap.size := Nat.le_trans LP1 ((by repeat (first | exact Below.refl _ _ | apply Below.drew | apply Below.al)) : Below wfP1.heap.size wfP1 (wfP1.alloc (.cells (evA 0 0 0) 54))).size
          have LbP2 : Hid (w.heap.size ≤ wfP1.heap.size) := (BP1).size
          obtain ⟨BBP, hBBP2⟩ : ∃ BB, BB = wfP1.heap.size := ⟨_, rfl⟩
          rw [← hBBP2] at AP2 LbP2 ⊢
          clear hBBP2
          generalize hzP2 : ((wfP1.alloc (.cells (evA 0 0 0) 54)) : World) = wfP2 at MP2 BP2 AP2 LP2 hHeld ⊢
          clear hzP2
          refine wpAnyH_ready (rs := [5]) (by kernel_rfl) (by simp) ?_
          refine AllReadyH.cons rfl (fun K' hK => ?_) AllReadyH.nil
          rw [if_pos (by rfl)]
          simp only [List.getElem_toArray, List.getElem_cons_succ, List.getElem_cons_zero]
          have S0 := hHeld
          go_wp2_with fail
          refine Calls.mono (SP.out _ MP2) ?_
          rintro e wfP3 ⟨rfl, MP3, kP3⟩
          try go_wp2_with fail
          have BP3 : Below w.heap.size w wfP3 := Kt.up BP2 kP3 LP.out.1 (BP2).size
          have LP3 : p ≤ wfP3.heap.size := Nat.le_trans LP2 kP3.size
          have AP3 := kP3.typ _ _ _ _ AP2 (by decide) (by decide)
          refine hK.out _ _ (kP3.typ _ _ _ _ S0 (by decide) (by decide)) (fun hHeld => ?_)
          clear hK K'
          try simp only [Act.put, List.getElem_toArray, List.getElem_cons_succ, List.getElem_cons_zero, List.setIfInBounds_toArray, List.set_cons_zero, List.set_cons_succ]
          clear kP3
          refine wpAnyH_take (i := 6) (v := (.tuple #[.agg (evA ea ek es), .bool ok])) rfl (by kernel_rfl) (by kernel_rfl) (by kernel_rfl) (fun _ _ _ h => h) (Or.inl ⟨by rfl, ?_⟩) (by assumption) ?_
          · intro w9 hSw
            try dsimp only at hSw
            go_simp
            all_goals try decide
            all_goals try assumption
            all_goals try omega
          try simp only [Act.put, List.getElem_toArray, List.getElem_cons_succ, List.getElem_cons_zero, List.setIfInBounds_toArray, List.set_cons_zero, List.set_cons_succ]
          refine wpAnyH_take (i := 7) (v := (.agg (evA ea ek es))) rfl (by kernel_rfl) (by kernel_rfl) (by kernel_rfl) (fun _ _ _ h => h) (Or.inl ⟨by rfl, ?_⟩) (by assumption) ?_
          · intro w9 hSw
            try dsimp only at hSw
            go_simp
            all_goals try decide
            all_goals try assumption
            all_goals try omega
          try simp only [Act.put, List.getElem_toArray, List.getElem_cons_succ, List.getElem_cons_zero, List.setIfInBounds_toArray, List.set_cons_zero, List.set_cons_succ]
          refine wpAnyH_take (i := 8) (v := (.bool ok)) rfl (by kernel_rfl) (by kernel_rfl) (by kernel_rfl) (fun _ _ _ h => h) (Or.inl ⟨by rfl, ?_⟩) (by assumption) ?_
          · intro w9 hSw
            try dsimp only at hSw
            go_simp
            all_goals try decide
            all_goals try assumption
            all_goals try omega
          try simp only [Act.put, List.getElem_toArray, List.getElem_cons_succ, List.getElem_cons_zero, List.setIfInBounds_toArray, List.set_cons_zero, List.set_cons_succ]
          refine wpAnyH_ready (rs := [10]) (by kernel_rfl) (by simp) ?_
          refine AllReadyH.cons rfl (fun K' hK => ?_) AllReadyH.nil
          rw [if_pos (by rfl)]
          simp only [List.getElem_toArray, List.getElem_cons_succ, List.getElem_cons_zero]
          have S0 := hHeld
          have nBP4 : BX ≠ BBP := fun e => by have h9 := AP3; rw [← e, S0] at h9; simp at h9
          refine wp_store_row 54 (.tmp 9) (.tmp 67) rfl BBP (evA ea ek es) rfl rfl 54 _ AP3 infoT rfl (evA_one _ _ _) ?_
          refine hK.out _ _ ((sh11 nBP4 S0)) (fun hHeld => ?_)
          clear hK K'
          try simp only [Act.put, List.getElem_toArray, List.getElem_cons_succ, List.getElem_cons_zero, List.setIfInBounds_toArray, List.set_cons_zero, List.set_cons_succ]
          have MP4 := (MP3).oth ((Kp.refl [BBP] _).row BBP (evA ea ek es) (.inl (by simp))) AP3 (by decide) (by decide) (by decide)
          have BP4 : Below w.heap.size w (wfP3.setRow BBP (evA ea ek es)) := below_setRow BP3 LbP2.out _
          have AP4 := setRow_heap _ _ _ (evA ea ek es) _ _ AP3
          have LP4 : p ≤ (wfP3.setRow BBP (evA ea ek es)).heap.size := by have := LP3; rw [size_setRow]; omega
          generalize hzP4 : ((wfP3.setRow BBP (evA ea ek es)) : World) = wfP4 at MP4 BP4 AP4 LP4 hHeld ⊢
          clear hzP4
          refine wpAnyH_take (i := 11) (v := (.bool ok)) rfl (by kernel_rfl) (by kernel_rfl) (by kernel_rfl) (fun _ _ _ h => h) (Or.inl ⟨by rfl, ?_⟩) (by assumption) ?_
          · intro w9 hSw
            try dsimp only at hSw
            go_simp
            all_goals try decide
            all_goals try assumption
            all_goals try omega
          try simp only [Act.put, List.getElem_toArray, List.getElem_cons_succ, List.getElem_cons_zero, List.setIfInBounds_toArray, List.set_cons_zero, List.set_cons_succ]
          refine wpAnyH_done (by kernel_rfl) ?_ _
          have gX := hHeld
          clear hHeld
          have MW : Hid (Tn wfP4 p hb S' (kn S)) := MP4
          have BW : Below w.heap.size w wfP4 := BP4
          have LW : p ≤ wfP4.heap.size := LP4
          cases ok with
          | false =>
            have eK : kn S = kn S' := KK.out.1 rfl
            have MN : Tn wfP4 p hb S' (kn S') := by have := MW.out; rw [eK] at this; exact this
            clear eK KK gX
            have FN : Hid (Below w.heap.size w wfP4 ∧ p ≤ wfP4.heap.size ∧ Tn wfP4 p hb S' (kn S')) := ⟨BW, LW, MN⟩
            go_wp2_with fail
            go_loopw [11] (fun u wr => u = .int .i64 0 ∧ wr = wfP4) (fun _ _ => 0)
            case atStart => exact ⟨rfl, rfl⟩
            case round =>
              obtain ⟨rfl, rfl⟩ := hrel
              obtain ⟨wz, rfl⟩ : ∃ z, z = wr := ⟨_, rfl⟩
              have F3 : Hid (Below w.heap.size w wz ∧ p ≤ wz.heap.size ∧ Z0 S' ∧ Tn wz p hb S' (kn S')) := ⟨FN.out.1, FN.out.2.1, ZN.out, FN.out.2.2⟩
              go_wp2_with fail
              go_loopw [13] (fun nv wr => ∃ n : Nat, n ≤ 256 ∧ nv = .int .i64 (n : Int) ∧ wr = wz) (fun nv _ => 256 - (intOf nv).toNat)
              case atStart => exact ⟨0, Nat.zero_le _, rfl, rfl⟩
              case round =>
                obtain ⟨n, hn, rfl, rfl⟩ := hrel
                by_cases hn2 : n < 256
                · have gn : (n : Int) < 256 := by omega
                  have gn0 : (0 : Int) ≤ (n : Int) := by omega
                  have wk : IntKind.i64.wrap ((n : Int) + 1) = ((n + 1 : Nat) : Int) := by rw [IntKind.wrap_i64]; omega
                  have wu : IntKind.u8.wrap (n : Int) = (n : Int) := by rw [IntKind.wrap_u8]; omega
                  have cH := BR_cell F3.out.2.2.2.h (kn_get S' hn2)
                  obtain ⟨P9, h9⟩ := F3.out.2.2.2.w_
                  have SA := state_any h9 (n : Int) (by omega)
                  obtain ⟨b1, hb1⟩ : ∃ b1, b1 = (stV S' (n : Int)).1 := ⟨_, rfl⟩
                  obtain ⟨b2, hb2⟩ : ∃ b2, b2 = (stV S' (n : Int)).2 := ⟨_, rfl⟩
                  rw [← hb1, ← hb2] at SA
                  rw [← hb2] at cH
                  have SAH : Hid _ := SA
                  have lcH := block_lt_of_cell cH
                  clear SA h9 hb1 hb2
                  go_wp2_with fail
                  refine Calls.mono SAH.out ?_
                  rintro e w9 ⟨rfl, rfl⟩
                  clear SAH
                  go_wp2_with fail
                  exact ⟨⟨n + 1, by omega, by go_num, trivial⟩, by simp [intOf]; omega⟩
                · obtain rfl : n = 256 := by omega
                  go_wp2_with fail
                  exact ⟨⟨i + 1, by omega, by go_num, F3.out.1, F3.out.2.1, S', F3.out.2.2.1, F3.out.2.2.2⟩, by simp [intOf]; omega⟩
          | true =>
            obtain ⟨gd, pl⟩ := KK.out.2 rfl
            have ge : wfP4.heap[BBP]? = some (.cells (evA ea ek es) 54 (0, 0)) := AP4
            have f0 : wfP4.cell? ⟨BBP, 0, none⟩ = some (.int .u8 ea) := by rw [cell_of_row _ _ 0 _ _ _ ge]; rfl
            have f1 : wfP4.cell? ⟨BBP, 1, none⟩ = some (.int .u8 ek) := by rw [cell_of_row _ _ 1 _ _ _ ge]; rfl
            have f2 : wfP4.cell? ⟨BBP, 2, none⟩ = some (.int .u8 es) := by rw [cell_of_row _ _ 2 _ _ _ ge]; rfl
            have lf := lt_of_heap ge
            obtain ⟨l, hl9⟩ : ∃ l, Hid (l = [(⟨ea, ek, es⟩ : Ev)]) := ⟨_, rfl⟩
            have l1 : l.length = 1 := by rw [hl9.out]; rfl
            rw [← hl9.out] at pl
            obtain ⟨i0, hi, hz0, hz1, hz2⟩ := info_parts infoE
            have RUN := fun ty => Own.append (w := (wfP4.alloc (.cells (evA ea ek es) 54))) (ty := ty) Try.underlying62 hi hz0 hz1 hz2 rfl (by decide) (own_nil _ 54 3) ⟨wfP4.heap.size, 0, none⟩ 1 1 [.int .u8 ea, .int .u8 ek, .int .u8 es] rfl (fun i u hu => by rw [add_at, Nat.zero_add]; exact (cell_of_row _ _ i _ _ _ (at11 wfP4 (.cells (evA ea ek es) 54) wfP4.heap.size rfl)).trans (by simpa using hu)) (fun u hu => by simp at hu; rcases hu with rfl | rfl | rfl <;> rfl) (by decide) (by decide) (by decide)
            obtain ⟨g, o, q, w9, rr, hO, _, hK⟩ := RUN 62
            rw [show 0 + 1 = l.length from by omega] at rr hO
            have O1 : OwnAt w9 54 3 g o l.length q (evC l) := by have h8 := hO; rw [show ([] : List Value) ++ [.int .u8 ea, .int .u8 ek, .int .u8 es] = evC l from by rw [hl9.out]; rfl] at h8; exact h8
            have KB : Below wfP4.heap.size wfP4 w9 := Below.andThen (Below.al (Below.refl _ _) _) (Kp.bel hK)
            have M9 : Hid (Tn w9 p hb S' (kn S)) := MW.out.next KB
            have B9 : Below w.heap.size w w9 := Below.andThen BW KB
            have L9 : p ≤ w9.heap.size := Nat.le_trans LW KB.size
            have l8' : (l.length : Int) ≤ 128 := by omega
            have l8 : l.length ≤ 128 := by omega
            have PL : Hid (play (kn S) l = some (kn S')) := pl
            have GG : Hid (∀ e ∈ l, 0 ≤ e.n ∧ e.n < 256) := by show ∀ e ∈ l, _; rw [hl9.out]; intro e he; simp at he; subst he; exact gd
            have O1 : Hid _ := O1
            clear RUN hi hz0 hz1 hz2 hO hK KB pl gd hl9 MW BW LW KK gX ge l1
            go_wp2_with (at_builtin; refine wpList_app_by rfl _ _ 62 rfl (.slice none 0 0) (.slice (some ⟨wfP4.heap.size, 0, none⟩) 1 1) rfl rfl _ rr ?_)
            clear rr f0 f1 f2 lf
            have FS : Hid (Below w.heap.size w w9 ∧ p ≤ w9.heap.size ∧ Tn w9 p hb S' (kn S) ∧ Rw w9 54 g o 0 l ∧ play (kn S) (l.drop 0) = some (kn S')) := ⟨B9, L9, M9.out, Rw.of rfl O1.out, by rw [List.drop_zero]; exact PL.out⟩
            have GD : Hid (∀ e ∈ l, 0 ≤ e.n ∧ e.n < 256) := GG.out
            go_wp2_with fail
            go_loopw [11] (fun jv wr => ∃ (j : Nat) (H : List Bool), j ≤ l.length ∧ jv = .int .i64 (j : Int) ∧ Below w.heap.size w wr ∧ p ≤ wr.heap.size ∧ Tn wr p hb S' H ∧ Rw wr 54 g o j l ∧ play H (l.drop j) = some (kn S')) (fun jv _ => l.length - (intOf jv).toNat)
            case atStart => exact ⟨0, _, Nat.zero_le _, rfl, FS.out⟩
            case round =>
              clear FS
              obtain ⟨j, HH, hj, rfl, Bj, Lj, Tj, Rj, Pj⟩ := hrel
              by_cases hjl : j < l.length
              · have gj : (j : Int) < (l.length : Int) := by omega
                have gj0 : (0 : Int) ≤ (j : Int) := by omega
                have wk : IntKind.i64.wrap ((j : Int) + 1) = ((j + 1 : Nat) : Int) := by rw [IntKind.wrap_i64]; omega
                obtain ⟨ev, hev⟩ : ∃ ev, l[j]? = some ev := ⟨_, List.getElem?_eq_getElem hjl⟩
                have ge := GD.out ev (List.mem_of_getElem? hev)
                obtain ⟨m, hm⟩ : ∃ m : Nat, ev.n = (m : Int) := ⟨ev.n.toNat, by omega⟩
                have gm : (m : Int) < 256 := by omega
                have gm0 : (0 : Int) ≤ (m : Int) := by omega
                have gmn : m < 256 := by omega
                obtain ⟨pl1, pl2⟩ := play_cons hev Pj
                rw [show ev.n.toNat = m from by omega] at pl1 pl2
                obtain ⟨bb, hbb⟩ : ∃ bb, HH[m]? = some bb := ⟨_, List.getElem?_eq_getElem (by have := Tj.l; omega)⟩
                rw [hbb] at pl1
                have pl1 : (bb == (ev.k == 1)) = false := pl1
                have cH := BR_cell Tj.h hbb
                have zH := froz11 wr hb m _ _ Tj.h
                have lH := block_lt_of_cell cH
                obtain ⟨f0, f1⟩ := Rj.cells (Nat.le_refl _) hev
                rw [hm] at f0
                have lg := block_lt_of_cell f0
                have FR : Hid (∀ n, Below w.heap.size w ((wr.drewN n).setCell ⟨hb, m, none⟩ (.bool (ev.k != 4))) ∧ p ≤ ((wr.drewN n).setCell ⟨hb, m, none⟩ (.bool (ev.k != 4))).heap.size ∧ Tn ((wr.drewN n).setCell ⟨hb, m, none⟩ (.bool (ev.k != 4))) p hb S' (HH.set m (ev.k != 4)) ∧ Rw ((wr.drewN n).setCell ⟨hb, m, none⟩ (.bool (ev.k != 4))) 54 g o (j + 1) l ∧ play (HH.set m (ev.k != 4)) (l.drop (j + 1)) = some (kn S')) := fun n => turn_step Bj Lj Tj Rj pl2 LP.out.2 n
                clear Tj Rj Pj pl2 hbb hev Bj Lj ge
                go_wp2_with fail
                go_quiet (fail)
                go_wp2_with fail
                exact ⟨⟨j + 1, _, by omega, by go_num, FR.out _⟩, by simp [intOf]; omega⟩
              · obtain rfl : j = l.length := by omega
                rw [List.drop_length] at Pj
                have eH : HH = kn S' := by simp only [play] at Pj; exact Option.some.inj Pj
                subst eH
                have TH : Hid (Tn wr p hb S' (kn S')) := Tj
                clear Tj Rj Pj GD
                obtain ⟨wz, rfl⟩ : ∃ z, z = wr := ⟨_, rfl⟩
                have F3 : Hid (Below w.heap.size w wz ∧ p ≤ wz.heap.size ∧ Z0 S' ∧ Tn wz p hb S' (kn S')) := ⟨Bj, Lj, ZN.out, TH.out⟩
                go_wp2_with fail
                go_loopw [13] (fun nv wr => ∃ n : Nat, n ≤ 256 ∧ nv = .int .i64 (n : Int) ∧ wr = wz) (fun nv _ => 256 - (intOf nv).toNat)
                case atStart => exact ⟨0, Nat.zero_le _, rfl, rfl⟩
                case round =>
                  obtain ⟨n, hn, rfl, rfl⟩ := hrel
                  by_cases hn2 : n < 256
                  · have gn : (n : Int) < 256 := by omega
                    have gn0 : (0 : Int) ≤ (n : Int) := by omega
                    have wk : IntKind.i64.wrap ((n : Int) + 1) = ((n + 1 : Nat) : Int) := by rw [IntKind.wrap_i64]; omega
                    have wu : IntKind.u8.wrap (n : Int) = (n : Int) := by rw [IntKind.wrap_u8]; omega
                    have cH := BR_cell F3.out.2.2.2.h (kn_get S' hn2)
                    obtain ⟨P9, h9⟩ := F3.out.2.2.2.w_
                    have SA := state_any h9 (n : Int) (by omega)
                    obtain ⟨b1, hb1⟩ : ∃ b1, b1 = (stV S' (n : Int)).1 := ⟨_, rfl⟩
                    obtain ⟨b2, hb2⟩ : ∃ b2, b2 = (stV S' (n : Int)).2 := ⟨_, rfl⟩
                    rw [← hb1, ← hb2] at SA
                    rw [← hb2] at cH
                    have SAH : Hid _ := SA
                    have lcH := block_lt_of_cell cH
                    clear SA h9 hb1 hb2
                    go_wp2_with fail
                    refine Calls.mono SAH.out ?_
                    rintro e w9 ⟨rfl, rfl⟩
                    clear SAH
                    go_wp2_with fail
                    exact ⟨⟨n + 1, by omega, by go_num, trivial⟩, by simp [intOf]; omega⟩
                  · obtain rfl : n = 256 := by omega
                    go_wp2_with fail
                    exact ⟨⟨i + 1, by omega, by go_num, F3.out.1, F3.out.2.1, S', F3.out.2.2.1, F3.out.2.2.2⟩, by simp [intOf]; omega⟩
      · rw [if_pos (by rfl)]
        simp only [List.getElem_toArray, List.getElem_cons_succ, List.getElem_cons_zero]
        have S0 := hHeld
        go_wp2_with fail
        refine hK.out _ _ ((blk11 ((al_drew _ _) : Below y.heap.size y.drew ((y.alloc (.cells (evA 0 0 0) 54)).drew)) S0)) (fun hHeld => ?_)
        clear hK K'
        try simp only [Act.put, List.getElem_toArray, List.getElem_cons_succ, List.getElem_cons_zero, List.setIfInBounds_toArray, List.set_cons_zero, List.set_cons_succ]
        have MP1 := (My0).next ((al_drew _ _) : Below y.heap.size y.drew ((y.alloc (.cells (evA 0 0 0) 54)).drew))
        have BP1 : Below w.heap.size w ((y.alloc (.cells (evA 0 0 0) 54)).drew) := Below.andThen By0 ((al_drew _ _) : Below y.heap.size y.drew ((y.alloc (.cells (evA 0 0 0) 54)).drew))
        have AP1 : ((y.alloc (.cells (evA 0 0 0) 54)).drew).heap[y.heap.size]? = some (.cells (evA 0 0 0) 54 (0, 0)) := at11 _ _ _ rfl
        have LP1 : p ≤ ((y.alloc (.cells (evA 0 0 0) 54)).drew).heap.size := Nat.le_trans Ly0 ((al_drew _ _) : Below y.heap.size y.drew ((y.alloc (.cells (evA 0 0 0) 54)).drew)).size
        have LbP1 : Hid (w.heap.size ≤ y.heap.size) := (By0).size
        obtain ⟨BBP, hBBP1⟩ : ∃ BB, BB = y.heap.size := ⟨_, rfl⟩
        rw [← hBBP1] at AP1 LbP1 ⊢
        clear hBBP1
        generalize hzP1 : (((y.alloc (.cells (evA 0 0 0) 54)).drew) : World) = wfP1 at MP1 BP1 AP1 LP1 hHeld ⊢
        clear hzP1
        refine wpAnyH_ready (rs := [2]) (by kernel_rfl) (by simp) ?_
        refine AllReadyH.cons rfl (fun K' hK => ?_) AllReadyH.nil
        rw [if_pos (by rfl)]
        simp only [List.getElem_toArray, List.getElem_cons_succ, List.getElem_cons_zero]
        have S0 := hHeld
        go_wp2_with fail
        refine Calls.mono (OF.out _) ?_
        rintro e wfP2 ⟨rfl, hbP2⟩
        try go_wp2_with fail
        have MP2 := (MP1).next hbP2
        have BP2 : Below w.heap.size w wfP2 := Below.andThen BP1 hbP2
        have LP2 : p ≤ wfP2.heap.size := Nat.le_trans LP1 hbP2.size
        have AP2 := blk11 hbP2 AP1
        refine hK.out _ _ (blk11 hbP2 S0) (fun hHeld => ?_)
        clear hK K'
        try simp only [Act.put, List.getElem_toArray, List.getElem_cons_succ, List.getElem_cons_zero, List.setIfInBounds_toArray, List.set_cons_zero, List.set_cons_succ]
        clear hbP2
        refine wpAnyH_ready (rs := [5]) (by kernel_rfl) (by simp) ?_
        refine AllReadyH.cons rfl (fun K' hK => ?_) AllReadyH.nil
        rw [if_pos (by rfl)]
        simp only [List.getElem_toArray, List.getElem_cons_succ, List.getElem_cons_zero]
        have S0 := hHeld
        go_wp2_with fail
        refine Calls.mono (SP.out _ MP2) ?_
        rintro e wfP3 ⟨rfl, MP3, kP3⟩
        try go_wp2_with fail
        have BP3 : Below w.heap.size w wfP3 := Kt.up BP2 kP3 LP.out.1 (BP2).size
        have LP3 : p ≤ wfP3.heap.size := Nat.le_trans LP2 kP3.size
        have AP3 := kP3.typ _ _ _ _ AP2 (by decide) (by decide)
        refine hK.out _ _ (kP3.typ _ _ _ _ S0 (by decide) (by decide)) (fun hHeld => ?_)
        clear hK K'
        try simp only [Act.put, List.getElem_toArray, List.getElem_cons_succ, List.getElem_cons_zero, List.setIfInBounds_toArray, List.set_cons_zero, List.set_cons_succ]
        clear kP3
        refine wpAnyH_take (i := 6) (v := (.tuple #[.agg (evA ea ek es), .bool ok])) rfl (by kernel_rfl) (by kernel_rfl) (by kernel_rfl) (fun _ _ _ h => h) (Or.inl ⟨by rfl, ?_⟩) (by assumption) ?_
        · intro w9 hSw
          try dsimp only at hSw
          go_simp
          all_goals try decide
          all_goals try assumption
          all_goals try omega
        try simp only [Act.put, List.getElem_toArray, List.getElem_cons_succ, List.getElem_cons_zero, List.setIfInBounds_toArray, List.set_cons_zero, List.set_cons_succ]
        refine wpAnyH_take (i := 7) (v := (.agg (evA ea ek es))) rfl (by kernel_rfl) (by kernel_rfl) (by kernel_rfl) (fun _ _ _ h => h) (Or.inl ⟨by rfl, ?_⟩) (by assumption) ?_
        · intro w9 hSw
          try dsimp only at hSw
          go_simp
          all_goals try decide
          all_goals try assumption
          all_goals try omega
        try simp only [Act.put, List.getElem_toArray, List.getElem_cons_succ, List.getElem_cons_zero, List.setIfInBounds_toArray, List.set_cons_zero, List.set_cons_succ]
        refine wpAnyH_take (i := 8) (v := (.bool ok)) rfl (by kernel_rfl) (by kernel_rfl) (by kernel_rfl) (fun _ _ _ h => h) (Or.inl ⟨by rfl, ?_⟩) (by assumption) ?_
        · intro w9 hSw
          try dsimp only at hSw
          go_simp
          all_goals try decide
          all_goals try assumption
          all_goals try omega
        try simp only [Act.put, List.getElem_toArray, List.getElem_cons_succ, List.getElem_cons_zero, List.setIfInBounds_toArray, List.set_cons_zero, List.set_cons_succ]
        refine wpAnyH_ready (rs := [10]) (by kernel_rfl) (by simp) ?_
        refine AllReadyH.cons rfl (fun K' hK => ?_) AllReadyH.nil
        rw [if_pos (by rfl)]
        simp only [List.getElem_toArray, List.getElem_cons_succ, List.getElem_cons_zero]
        have S0 := hHeld
        have nBP4 : BX ≠ BBP := fun e => by have h9 := AP3; rw [← e, S0] at h9; simp at h9
        refine wp_store_row 54 (.tmp 9) (.tmp 67) rfl BBP (evA ea ek es) rfl rfl 54 _ AP3 infoT rfl (evA_one _ _ _) ?_
        refine hK.out _ _ ((sh11 nBP4 S0)) (fun hHeld => ?_)
        clear hK K'
        try simp only [Act.put, List.getElem_toArray, List.getElem_cons_succ, List.getElem_cons_zero, List.setIfInBounds_toArray, List.set_cons_zero, List.set_cons_succ]
        have MP4 := (MP3).oth ((Kp.refl [BBP] _).row BBP (evA ea ek es) (.inl (by simp))) AP3 (by decide) (by decide) (by decide)
        have BP4 : Below w.heap.size w (wfP3.setRow BBP (evA ea ek es)) := below_setRow BP3 LbP1.out _
        have AP4 := setRow_heap _ _ _ (evA ea ek es) _ _ AP3
        have LP4 : p ≤ (wfP3.setRow BBP (evA ea ek es)).heap.size := by have := LP3; rw [size_setRow]; omega
        generalize hzP4 : ((wfP3.setRow BBP (evA ea ek es)) : World) = wfP4 at MP4 BP4 AP4 LP4 hHeld ⊢
        clear hzP4
        refine wpAnyH_take (i := 11) (v := (.bool ok)) rfl (by kernel_rfl) (by kernel_rfl) (by kernel_rfl) (fun _ _ _ h => h) (Or.inl ⟨by rfl, ?_⟩) (by assumption) ?_
        · intro w9 hSw
          try dsimp only at hSw
          go_simp
          all_goals try decide
          all_goals try assumption
          all_goals try omega
        try simp only [Act.put, List.getElem_toArray, List.getElem_cons_succ, List.getElem_cons_zero, List.setIfInBounds_toArray, List.set_cons_zero, List.set_cons_succ]
        refine wpAnyH_done (by kernel_rfl) ?_ _
        have gX := hHeld
        clear hHeld
        have MW : Hid (Tn wfP4 p hb S' (kn S)) := MP4
        have BW : Below w.heap.size w wfP4 := BP4
        have LW : p ≤ wfP4.heap.size := LP4
        cases ok with
        | false =>
          have eK : kn S = kn S' := KK.out.1 rfl
          have MN : Tn wfP4 p hb S' (kn S') := by have := MW.out; rw [eK] at this; exact this
          clear eK KK gX
          have FN : Hid (Below w.heap.size w wfP4 ∧ p ≤ wfP4.heap.size ∧ Tn wfP4 p hb S' (kn S')) := ⟨BW, LW, MN⟩
          go_wp2_with fail
          go_loopw [11] (fun u wr => u = .int .i64 0 ∧ wr = wfP4) (fun _ _ => 0)
          case atStart => exact ⟨rfl, rfl⟩
          case round =>
            obtain ⟨rfl, rfl⟩ := hrel
            obtain ⟨wz, rfl⟩ : ∃ z, z = wr := ⟨_, rfl⟩
            have F3 : Hid (Below w.heap.size w wz ∧ p ≤ wz.heap.size ∧ Z0 S' ∧ Tn wz p hb S' (kn S')) := ⟨FN.out.1, FN.out.2.1, ZN.out, FN.out.2.2⟩
            go_wp2_with fail
            go_loopw [13] (fun nv wr => ∃ n : Nat, n ≤ 256 ∧ nv = .int .i64 (n : Int) ∧ wr = wz) (fun nv _ => 256 - (intOf nv).toNat)
            case atStart => exact ⟨0, Nat.zero_le _, rfl, rfl⟩
            case round =>
              obtain ⟨n, hn, rfl, rfl⟩ := hrel
              by_cases hn2 : n < 256
              · have gn : (n : Int) < 256 := by omega
                have gn0 : (0 : Int) ≤ (n : Int) := by omega
                have wk : IntKind.i64.wrap ((n : Int) + 1) = ((n + 1 : Nat) : Int) := by rw [IntKind.wrap_i64]; omega
                have wu : IntKind.u8.wrap (n : Int) = (n : Int) := by rw [IntKind.wrap_u8]; omega
                have cH := BR_cell F3.out.2.2.2.h (kn_get S' hn2)
                obtain ⟨P9, h9⟩ := F3.out.2.2.2.w_
                have SA := state_any h9 (n : Int) (by omega)
                obtain ⟨b1, hb1⟩ : ∃ b1, b1 = (stV S' (n : Int)).1 := ⟨_, rfl⟩
                obtain ⟨b2, hb2⟩ : ∃ b2, b2 = (stV S' (n : Int)).2 := ⟨_, rfl⟩
                rw [← hb1, ← hb2] at SA
                rw [← hb2] at cH
                have SAH : Hid _ := SA
                have lcH := block_lt_of_cell cH
                clear SA h9 hb1 hb2
                go_wp2_with fail
                refine Calls.mono SAH.out ?_
                rintro e w9 ⟨rfl, rfl⟩
                clear SAH
                go_wp2_with fail
                exact ⟨⟨n + 1, by omega, by go_num, trivial⟩, by simp [intOf]; omega⟩
              · obtain rfl : n = 256 := by omega
                go_wp2_with fail
                exact ⟨⟨i + 1, by omega, by go_num, F3.out.1, F3.out.2.1, S', F3.out.2.2.1, F3.out.2.2.2⟩, by simp [intOf]; omega⟩
        | true =>
          obtain ⟨gd, pl⟩ := KK.out.2 rfl
          have ge : wfP4.heap[BBP]? = some (.cells (evA ea ek es) 54 (0, 0)) := AP4
          have f0 : wfP4.cell? ⟨BBP, 0, none⟩ = some (.int .u8 ea) := by rw [cell_of_row _ _ 0 _ _ _ ge]; rfl
          have f1 : wfP4.cell? ⟨BBP, 1, none⟩ = some (.int .u8 ek) := by rw [cell_of_row _ _ 1 _ _ _ ge]; rfl
          have f2 : wfP4.cell? ⟨BBP, 2, none⟩ = some (.int .u8 es) := by rw [cell_of_row _ _ 2 _ _ _ ge]; rfl
          have lf := lt_of_heap ge
          obtain ⟨l, hl9⟩ : ∃ l, Hid (l = [(⟨ea, ek, es⟩ : Ev)]) := ⟨_, rfl⟩
          have l1 : l.length = 1 := by rw [hl9.out]; rfl
          rw [← hl9.out] at pl
          obtain ⟨i0, hi, hz0, hz1, hz2⟩ := info_parts infoE
          have RUN := fun ty => Own.append (w := (wfP4.alloc (.cells (evA ea ek es) 54))) (ty := ty) Try.underlying62 hi hz0 hz1 hz2 rfl (by decide) (own_nil _ 54 3) ⟨wfP4.heap.size, 0, none⟩ 1 1 [.int .u8 ea, .int .u8 ek, .int .u8 es] rfl (fun i u hu => by rw [add_at, Nat.zero_add]; exact (cell_of_row _ _ i _ _ _ (at11 wfP4 (.cells (evA ea ek es) 54) wfP4.heap.size rfl)).trans (by simpa using hu)) (fun u hu => by simp at hu; rcases hu with rfl | rfl | rfl <;> rfl) (by decide) (by decide) (by decide)
          obtain ⟨g, o, q, w9, rr, hO, _, hK⟩ := RUN 62
          rw [show 0 + 1 = l.length from by omega] at rr hO
          have O1 : OwnAt w9 54 3 g o l.length q (evC l) := by have h8 := hO; rw [show ([] : List Value) ++ [.int .u8 ea, .int .u8 ek, .int .u8 es] = evC l from by rw [hl9.out]; rfl] at h8; exact h8
          have KB : Below wfP4.heap.size wfP4 w9 := Below.andThen (Below.al (Below.refl _ _) _) (Kp.bel hK)
          have M9 : Hid (Tn w9 p hb S' (kn S)) := MW.out.next KB
          have B9 : Below w.heap.size w w9 := Below.andThen BW KB
          have L9 : p ≤ w9.heap.size := Nat.le_trans LW KB.size
          have l8' : (l.length : Int) ≤ 128 := by omega
          have l8 : l.length ≤ 128 := by omega
          have PL : Hid (play (kn S) l = some (kn S')) := pl
          have GG : Hid (∀ e ∈ l, 0 ≤ e.n ∧ e.n < 256) := by show ∀ e ∈ l, _; rw [hl9.out]; intro e he; simp at he; subst he; exact gd
          have O1 : Hid _ := O1
          clear RUN hi hz0 hz1 hz2 hO hK KB pl gd hl9 MW BW LW KK gX ge l1
          go_wp2_with (at_builtin; refine wpList_app_by rfl _ _ 62 rfl (.slice none 0 0) (.slice (some ⟨wfP4.heap.size, 0, none⟩) 1 1) rfl rfl _ rr ?_)
          clear rr f0 f1 f2 lf
          have FS : Hid (Below w.heap.size w w9 ∧ p ≤ w9.heap.size ∧ Tn w9 p hb S' (kn S) ∧ Rw w9 54 g o 0 l ∧ play (kn S) (l.drop 0) = some (kn S')) := ⟨B9, L9, M9.out, Rw.of rfl O1.out, by rw [List.drop_zero]; exact PL.out⟩
          have GD : Hid (∀ e ∈ l, 0 ≤ e.n ∧ e.n < 256) := GG.out
          go_wp2_with fail
          go_loopw [11] (fun jv wr => ∃ (j : Nat) (H : List Bool), j ≤ l.length ∧ jv = .int .i64 (j : Int) ∧ Below w.heap.size w wr ∧ p ≤ wr.heap.size ∧ Tn wr p hb S' H ∧ Rw wr 54 g o j l ∧ play H (l.drop j) = some (kn S')) (fun jv _ => l.length - (intOf jv).toNat)
          case atStart => exact ⟨0, _, Nat.zero_le _, rfl, FS.out⟩
          case round =>
            clear FS
            obtain ⟨j, HH, hj, rfl, Bj, Lj, Tj, Rj, Pj⟩ := hrel
            by_cases hjl : j < l.length
            · have gj : (j : Int) < (l.length : Int) := by omega
              have gj0 : (0 : Int) ≤ (j : Int) := by omega
              have wk : IntKind.i64.wrap ((j : Int) + 1) = ((j + 1 : Nat) : Int) := by rw [IntKind.wrap_i64]; omega
              obtain ⟨ev, hev⟩ : ∃ ev, l[j]? = some ev := ⟨_, List.getElem?_eq_getElem hjl⟩
              have ge := GD.out ev (List.mem_of_getElem? hev)
              obtain ⟨m, hm⟩ : ∃ m : Nat, ev.n = (m : Int) := ⟨ev.n.toNat, by omega⟩
              have gm : (m : Int) < 256 := by omega
              have gm0 : (0 : Int) ≤ (m : Int) := by omega
              have gmn : m < 256 := by omega
              obtain ⟨pl1, pl2⟩ := play_cons hev Pj
              rw [show ev.n.toNat = m from by omega] at pl1 pl2
              obtain ⟨bb, hbb⟩ : ∃ bb, HH[m]? = some bb := ⟨_, List.getElem?_eq_getElem (by have := Tj.l; omega)⟩
              rw [hbb] at pl1
              have pl1 : (bb == (ev.k == 1)) = false := pl1
              have cH := BR_cell Tj.h hbb
              have zH := froz11 wr hb m _ _ Tj.h
              have lH := block_lt_of_cell cH
              obtain ⟨f0, f1⟩ := Rj.cells (Nat.le_refl _) hev
              rw [hm] at f0
              have lg := block_lt_of_cell f0
              have FR : Hid (∀ n, Below w.heap.size w ((wr.drewN n).setCell ⟨hb, m, none⟩ (.bool (ev.k != 4))) ∧ p ≤ ((wr.drewN n).setCell ⟨hb, m, none⟩ (.bool (ev.k != 4))).heap.size ∧ Tn ((wr.drewN n).setCell ⟨hb, m, none⟩ (.bool (ev.k != 4))) p hb S' (HH.set m (ev.k != 4)) ∧ Rw ((wr.drewN n).setCell ⟨hb, m, none⟩ (.bool (ev.k != 4))) 54 g o (j + 1) l ∧ play (HH.set m (ev.k != 4)) (l.drop (j + 1)) = some (kn S')) := fun n => turn_step Bj Lj Tj Rj pl2 LP.out.2 n
              clear Tj Rj Pj pl2 hbb hev Bj Lj ge
              go_wp2_with fail
              go_quiet (fail)
              go_wp2_with fail
              exact ⟨⟨j + 1, _, by omega, by go_num, FR.out _⟩, by simp [intOf]; omega⟩
            · obtain rfl : j = l.length := by omega
              rw [List.drop_length] at Pj
              have eH : HH = kn S' := by simp only [play] at Pj; exact Option.some.inj Pj
              subst eH
              have TH : Hid (Tn wr p hb S' (kn S')) := Tj
              clear Tj Rj Pj GD
              obtain ⟨wz, rfl⟩ : ∃ z, z = wr := ⟨_, rfl⟩
              have F3 : Hid (Below w.heap.size w wz ∧ p ≤ wz.heap.size ∧ Z0 S' ∧ Tn wz p hb S' (kn S')) := ⟨Bj, Lj, ZN.out, TH.out⟩
              go_wp2_with fail
              go_loopw [13] (fun nv wr => ∃ n : Nat, n ≤ 256 ∧ nv = .int .i64 (n : Int) ∧ wr = wz) (fun nv _ => 256 - (intOf nv).toNat)
              case atStart => exact ⟨0, Nat.zero_le _, rfl, rfl⟩
              case round =>
                obtain ⟨n, hn, rfl, rfl⟩ := hrel
                by_cases hn2 : n < 256
                · have gn : (n : Int) < 256 := by omega
                  have gn0 : (0 : Int) ≤ (n : Int) := by omega
                  have wk : IntKind.i64.wrap ((n : Int) + 1) = ((n + 1 : Nat) : Int) := by rw [IntKind.wrap_i64]; omega
                  have wu : IntKind.u8.wrap (n : Int) = (n : Int) := by rw [IntKind.wrap_u8]; omega
                  have cH := BR_cell F3.out.2.2.2.h (kn_get S' hn2)
                  obtain ⟨P9, h9⟩ := F3.out.2.2.2.w_
                  have SA := state_any h9 (n : Int) (by omega)
                  obtain ⟨b1, hb1⟩ : ∃ b1, b1 = (stV S' (n : Int)).1 := ⟨_, rfl⟩
                  obtain ⟨b2, hb2⟩ : ∃ b2, b2 = (stV S' (n : Int)).2 := ⟨_, rfl⟩
                  rw [← hb1, ← hb2] at SA
                  rw [← hb2] at cH
                  have SAH : Hid _ := SA
                  have lcH := block_lt_of_cell cH
                  clear SA h9 hb1 hb2
                  go_wp2_with fail
                  refine Calls.mono SAH.out ?_
                  rintro e w9 ⟨rfl, rfl⟩
                  clear SAH
                  go_wp2_with fail
                  exact ⟨⟨n + 1, by omega, by go_num, trivial⟩, by simp [intOf]; omega⟩
                · obtain rfl : n = 256 := by omega
                  go_wp2_with fail
                  exact ⟨⟨i + 1, by omega, by go_num, F3.out.1, F3.out.2.1, S', F3.out.2.2.1, F3.out.2.2.2⟩, by simp [intOf]; omega⟩
    obtain ⟨l, S', Z', l8, PL0, GD0, SP0⟩ := tick_tn (p := p) (hb := hb) ZH.out MY.sl x.now
    have SP : Hid _ := SP0
    have ZN : Hid (Z0 S') := Z'
    have PL : Hid _ := PL0
    have GG : Hid _ := GD0
    clear SP0 Z' PL0 GD0
    go_wp2_with fail
    rw [← hBX.out]
    generalize hy : (wr.alloc (.cells x.A 51) : World) = y at Y0 MY gB0 LY ⊢
    clear hy hBX lbr B LL c0 c1 c2 c3 c4 c5 c6 c7 c8 c9 c10 c11 c12 c13 c14 c15
    obtain ⟨wo, rfl⟩ : ∃ z, z = wr := ⟨_, rfl⟩
    have MY : Hid (Tn y p hb S (kn S)) := MY
    obtain ⟨y0, y1, y3, y4⟩ := Ox.cells gB0
    have lBX := lt_of_heap gB0
    refine Calls.mono (SP.out _ MY.out) ?_
    rintro e w3 ⟨v, rfl, ev3, M3, k3⟩
    obtain ⟨a1, q1, rfl⟩ := ev3.form
    have B3 : Below w.heap.size w w3 := Kt.up Y0 k3 LP.out.1 Y0.size
    have L3 : p ≤ w3.heap.size := Nat.le_trans LY k3.size
    clear k3 SP MY gB0 Y0 LY y0 y1 y3 y4 lBX
    have l8' : (l.length : Int) ≤ 128 := by omega
    by_cases h0 : 0 < l.length
    rotate_left
    · have e0 : l = [] := List.eq_nil_of_length_eq_zero (by omega)
      subst e0
      have eK : kn S = kn S' := Option.some.inj PL.out
      rw [eK] at M3
      simp only [List.length_nil]
      clear h0 l8 l8' ev3
      have FN : Hid (Below w.heap.size w w3 ∧ p ≤ w3.heap.size ∧ Tn w3 p hb S' (kn S')) := ⟨B3, L3, M3⟩
      go_wp2_with fail
      go_loopw [11] (fun u wr => u = .int .i64 0 ∧ wr = w3) (fun _ _ => 0)
      case atStart => exact ⟨rfl, rfl⟩
      case round =>
        obtain ⟨rfl, rfl⟩ := hrel
        obtain ⟨wz, rfl⟩ : ∃ z, z = wr := ⟨_, rfl⟩
        have F3 : Hid (Below w.heap.size w wz ∧ p ≤ wz.heap.size ∧ Z0 S' ∧ Tn wz p hb S' (kn S')) := ⟨FN.out.1, FN.out.2.1, ZN.out, FN.out.2.2⟩
        go_wp2_with fail
        go_loopw [13] (fun nv wr => ∃ n : Nat, n ≤ 256 ∧ nv = .int .i64 (n : Int) ∧ wr = wz) (fun nv _ => 256 - (intOf nv).toNat)
        case atStart => exact ⟨0, Nat.zero_le _, rfl, rfl⟩
        case round =>
          obtain ⟨n, hn, rfl, rfl⟩ := hrel
          by_cases hn2 : n < 256
          · have gn : (n : Int) < 256 := by omega
            have gn0 : (0 : Int) ≤ (n : Int) := by omega
            have wk : IntKind.i64.wrap ((n : Int) + 1) = ((n + 1 : Nat) : Int) := by rw [IntKind.wrap_i64]; omega
            have wu : IntKind.u8.wrap (n : Int) = (n : Int) := by rw [IntKind.wrap_u8]; omega
            have cH := BR_cell F3.out.2.2.2.h (kn_get S' hn2)
            obtain ⟨P9, h9⟩ := F3.out.2.2.2.w_
            have SA := state_any h9 (n : Int) (by omega)
            obtain ⟨b1, hb1⟩ : ∃ b1, b1 = (stV S' (n : Int)).1 := ⟨_, rfl⟩
            obtain ⟨b2, hb2⟩ : ∃ b2, b2 = (stV S' (n : Int)).2 := ⟨_, rfl⟩
            rw [← hb1, ← hb2] at SA
            rw [← hb2] at cH
            have SAH : Hid _ := SA
            have lcH := block_lt_of_cell cH
            clear SA h9 hb1 hb2
            go_wp2_with fail
            refine Calls.mono SAH.out ?_
            rintro e w9 ⟨rfl, rfl⟩
            clear SAH
            go_wp2_with fail
            exact ⟨⟨n + 1, by omega, by go_num, trivial⟩, by simp [intOf]; omega⟩
          · obtain rfl : n = 256 := by omega
            go_wp2_with fail
            exact ⟨⟨i + 1, by omega, by go_num, F3.out.1, F3.out.2.1, S', F3.out.2.2.1, F3.out.2.2.2⟩, by simp [intOf]; omega⟩
    · obtain ⟨g, o, qq, e1, O1⟩ := ev3.pos h0
      cases e1
      have FS : Hid (Below w.heap.size w w3 ∧ p ≤ w3.heap.size ∧ Tn w3 p hb S' (kn S) ∧ Rw w3 54 g o 0 l ∧ play (kn S) (l.drop 0) = some (kn S')) := ⟨B3, L3, M3, Rw.of rfl O1, by rw [List.drop_zero]; exact PL.out⟩
      have GD : Hid (∀ e ∈ l, 0 ≤ e.n ∧ e.n < 256) := GG.out
      go_wp2_with fail
      go_loopw [11] (fun jv wr => ∃ (j : Nat) (H : List Bool), j ≤ l.length ∧ jv = .int .i64 (j : Int) ∧ Below w.heap.size w wr ∧ p ≤ wr.heap.size ∧ Tn wr p hb S' H ∧ Rw wr 54 g o j l ∧ play H (l.drop j) = some (kn S')) (fun jv _ => l.length - (intOf jv).toNat)
      case atStart => exact ⟨0, _, Nat.zero_le _, rfl, FS.out⟩
      case round =>
        clear FS
        obtain ⟨j, HH, hj, rfl, Bj, Lj, Tj, Rj, Pj⟩ := hrel
        by_cases hjl : j < l.length
        · have gj : (j : Int) < (l.length : Int) := by omega
          have gj0 : (0 : Int) ≤ (j : Int) := by omega
          have wk : IntKind.i64.wrap ((j : Int) + 1) = ((j + 1 : Nat) : Int) := by rw [IntKind.wrap_i64]; omega
          obtain ⟨ev, hev⟩ : ∃ ev, l[j]? = some ev := ⟨_, List.getElem?_eq_getElem hjl⟩
          have ge := GD.out ev (List.mem_of_getElem? hev)
          obtain ⟨m, hm⟩ : ∃ m : Nat, ev.n = (m : Int) := ⟨ev.n.toNat, by omega⟩
          have gm : (m : Int) < 256 := by omega
          have gm0 : (0 : Int) ≤ (m : Int) := by omega
          have gmn : m < 256 := by omega
          obtain ⟨pl1, pl2⟩ := play_cons hev Pj
          rw [show ev.n.toNat = m from by omega] at pl1 pl2
          obtain ⟨bb, hbb⟩ : ∃ bb, HH[m]? = some bb := ⟨_, List.getElem?_eq_getElem (by have := Tj.l; omega)⟩
          rw [hbb] at pl1
          have pl1 : (bb == (ev.k == 1)) = false := pl1
          have cH := BR_cell Tj.h hbb
          have zH := froz11 wr hb m _ _ Tj.h
          have lH := block_lt_of_cell cH
          obtain ⟨f0, f1⟩ := Rj.cells (Nat.le_refl _) hev
          rw [hm] at f0
          have lg := block_lt_of_cell f0
          have FR : Hid (∀ n, Below w.heap.size w ((wr.drewN n).setCell ⟨hb, m, none⟩ (.bool (ev.k != 4))) ∧ p ≤ ((wr.drewN n).setCell ⟨hb, m, none⟩ (.bool (ev.k != 4))).heap.size ∧ Tn ((wr.drewN n).setCell ⟨hb, m, none⟩ (.bool (ev.k != 4))) p hb S' (HH.set m (ev.k != 4)) ∧ Rw ((wr.drewN n).setCell ⟨hb, m, none⟩ (.bool (ev.k != 4))) 54 g o (j + 1) l ∧ play (HH.set m (ev.k != 4)) (l.drop (j + 1)) = some (kn S')) := fun n => turn_step Bj Lj Tj Rj pl2 LP.out.2 n
          clear Tj Rj Pj pl2 hbb hev Bj Lj ge
          go_wp2_with fail
          go_quiet (fail)
          go_wp2_with fail
          exact ⟨⟨j + 1, _, by omega, by go_num, FR.out _⟩, by simp [intOf]; omega⟩
        · obtain rfl : j = l.length := by omega
          rw [List.drop_length] at Pj
          have eH : HH = kn S' := by simp only [play] at Pj; exact Option.some.inj Pj
          subst eH
          have TH : Hid (Tn wr p hb S' (kn S')) := Tj
          clear Tj Rj Pj GD
          obtain ⟨wz, rfl⟩ : ∃ z, z = wr := ⟨_, rfl⟩
          have F3 : Hid (Below w.heap.size w wz ∧ p ≤ wz.heap.size ∧ Z0 S' ∧ Tn wz p hb S' (kn S')) := ⟨Bj, Lj, ZN.out, TH.out⟩
          go_wp2_with fail
          go_loopw [13] (fun nv wr => ∃ n : Nat, n ≤ 256 ∧ nv = .int .i64 (n : Int) ∧ wr = wz) (fun nv _ => 256 - (intOf nv).toNat)
          case atStart => exact ⟨0, Nat.zero_le _, rfl, rfl⟩
          case round =>
            obtain ⟨n, hn, rfl, rfl⟩ := hrel
            by_cases hn2 : n < 256
            · have gn : (n : Int) < 256 := by omega
              have gn0 : (0 : Int) ≤ (n : Int) := by omega
              have wk : IntKind.i64.wrap ((n : Int) + 1) = ((n + 1 : Nat) : Int) := by rw [IntKind.wrap_i64]; omega
              have wu : IntKind.u8.wrap (n : Int) = (n : Int) := by rw [IntKind.wrap_u8]; omega
              have cH := BR_cell F3.out.2.2.2.h (kn_get S' hn2)
              obtain ⟨P9, h9⟩ := F3.out.2.2.2.w_
              have SA := state_any h9 (n : Int) (by omega)
              obtain ⟨b1, hb1⟩ : ∃ b1, b1 = (stV S' (n : Int)).1 := ⟨_, rfl⟩
              obtain ⟨b2, hb2⟩ : ∃ b2, b2 = (stV S' (n : Int)).2 := ⟨_, rfl⟩
              rw [← hb1, ← hb2] at SA
              rw [← hb2] at cH
              have SAH : Hid _ := SA
              have lcH := block_lt_of_cell cH
              clear SA h9 hb1 hb2
              go_wp2_with fail
              refine Calls.mono SAH.out ?_
              rintro e w9 ⟨rfl, rfl⟩
              clear SAH
              go_wp2_with fail
              exact ⟨⟨n + 1, by omega, by go_num, trivial⟩, by simp [intOf]; omega⟩
            · obtain rfl : n = 256 := by omega
              go_wp2_with fail
              exact ⟨⟨i + 1, by omega, by go_num, F3.out.1, F3.out.2.1, S', F3.out.2.2.1, F3.out.2.2.2⟩, by simp [intOf]; omega⟩

theorem heartTurns_any (ad : Option Addr) (len cap : Nat) (L : List Ox) (w : World) (o : IsOx w ad len L) : Calls Try.prog 6 #[.slice ad len cap] w fun e w' => e = .returned (.bool true) ∧ Below w.heap.size w w' := by
  by_cases hl : 300 < len
  · exact turns_many ad len cap w hl
  · exact turns_few ad len cap L w o (by omega)
#print axioms heartTurns_any
end Go.Proofs.Ytjdfacjfpdfafaa
