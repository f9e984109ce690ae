/-
  The law StateKnown.
-/
import Derived.Test.YtjfjfohabpjemaaHm
namespace Go.Proofs.Ytjfjfohabpjemaa
open Go.RowKit

def lc16 : List Int := [1, 2, 128, 1, 128, 2, 1, 130, 2, 129, 128, 129, 0, 3, 127, 131]
def lc6 : List Int := [0, 5, 6, 127, 128, 255]
def lc7 : List Int := [0, 1, 5, 6, 127, 128, 255]
theorem oct16 : Oct lc16 := by intro x hx; simp [lc16] at hx; omega
theorem oct6 : Oct lc6 := by intro x hx; simp [lc6] at hx; omega
theorem oct7 : Oct lc7 := by intro x hx; simp [lc7] at hx; omega
abbrev litC (zs : List Int) : Array Value := (zs.map (Value.int .u8)).toArray

theorem ne_of_ty {w : World} {k F : Nat} {C D : Array Value} {T U : TypeId} (h : w.heap[k]? = some (.cells C T (0, 0))) (g : w.heap[F]? = some (.cells D U (0, 0))) (hT : T ≠ U) : k ≠ F := by
  rintro rfl
  have := h.symm.trans g
  simp at this
  exact hT this.2
theorem Kn.set {w w6 : World} {M : List Hx} {rv : Value} (h : Kn w w6 M rv) {F : Nat} {C : Array Value} {T : TypeId} (hF : w6.heap[F]? = some (.cells C T (0, 0))) (hT : T ≠ 38) (lF : w.heap.size ≤ F) (o : Nat) (v : Value) : Kn w (w6.setCell ⟨F, o, none⟩ v) M rv := by
  refine ⟨Below.setCell h.bel (by simp; omega) _, h.row.same (fun g hg => Below.heap_setCell w6 ⟨F, o, none⟩ _ _ ?_), h.oct, h.own⟩
  show g ≠ F
  rcases h.row with ⟨e, _⟩ | ⟨g', o', cap', e, hA⟩
  · rw [e] at hg; cases hg
  · rw [e] at hg
    cases hg
    obtain ⟨cur, c1, _⟩ := hA.cur
    exact ne_of_ty c1 hF (fun e => hT e.symm)
theorem oct_two {z y : Int} (hz : 0 ≤ z ∧ z < 256) (hy : 0 ≤ y ∧ y < 256) : Oct [z, y, 0, 0, 0, 0, 0, 0] := oct_made hz hy

set_option linter.unusedSimpArgs false in
set_option maxHeartbeats 4000000 in
set_option maxRecDepth 100000 in
theorem stateKnown_any (w : World) : Calls Try.prog 6 #[] w fun e w' => e = .returned (.bool true) ∧ Below w.heap.size w w' := by
  go_enter Try.func6, Try.ntmps6
  go_wp2_with fail
  have H16 : Hid ((w.alloc (.cells (litC lc16) 5)).heap[w.heap.size]? = some (.cells (litC lc16) 5 (0, 0))) := heap_new w _
  have B0 : Below w.heap.size w (w.alloc (.cells (litC lc16) 5)) := Below.al (Below.refl _ _) _
  obtain ⟨k0, hk0⟩ : ∃ k, Hid (k = w.heap.size) := ⟨_, rfl⟩
  have ek := hk0.out
  rw [← ek] at H16
  obtain ⟨w0, hw0⟩ : ∃ z, z = w.alloc (.cells (litC lc16) 5) := ⟨_, rfl⟩
  rw [← hw0] at H16 B0
  have hw1 : w.alloc (.cells #[.int .u8 1, .int .u8 2, .int .u8 128, .int .u8 1, .int .u8 128, .int .u8 2, .int .u8 1, .int .u8 130, .int .u8 2, .int .u8 129, .int .u8 128, .int .u8 129, .int .u8 0, .int .u8 3, .int .u8 127, .int .u8 131] 5) = w0 := by rw [hw0]; rfl
  rw [hw1, ← ek]
  have K0 : Hid (Kn w w0 [] (.slice none 0 0)) := Kn.nil w w0 B0
  clear hw0 hw1 ek hk0 B0
  go_loopw [1, 14] (fun rv u wr => ∃ (i : Nat) (L : List Hx), i ≤ 16 ∧ u = .int .i64 (i : Int) ∧ L.length = 12 * i ∧ Hid (Kn w wr L rv) ∧ Hid (wr.heap[k0]? = some (.cells (litC lc16) 5 (0, 0)))) (fun _ u _ => 16 - (intOf u).toNat)
  case atStart => exact ⟨0, [], by decide, rfl, rfl, K0, H16⟩
  case round =>
    clear K0 H16
    obtain ⟨i, L, hi, rfl, hL, KN, H16⟩ := hrel
    by_cases hlt : i < 16
    · have g1 : (i : Int) < 16 := by omega
      have ci := lit_at H16.out i hlt
      have oi := lit_in oct16 i hlt
      obtain ⟨z, hz⟩ : ∃ z, Hid (z = lc16.getD i 0) := ⟨_, rfl⟩
      rw [← hz.out] at ci oi
      have ZI : Hid (0 ≤ z ∧ z < 256) := oi
      have HL : Hid (L.length = 12 * i) := hL
      clear hz oi hL
      go_wp2_with fail
      obtain ⟨wo, rfl⟩ : ∃ z, z = wr := ⟨_, rfl⟩
      have B1 : Below wo.heap.size wo (wo.alloc (.cells (litC lc6) 5)) := Below.al (Below.refl _ _) _
      have H6 : Hid ((wo.alloc (.cells (litC lc6) 5)).heap[wo.heap.size]? = some (.cells (litC lc6) 5 (0, 0))) := heap_new wo _
      have H16b : Hid ((wo.alloc (.cells (litC lc6) 5)).heap[k0]? = some (.cells (litC lc16) 5 (0, 0))) := blk11 B1 H16.out
      have K1 : Hid (Kn w (wo.alloc (.cells (litC lc6) 5)) L u1) := KN.out.next B1
      obtain ⟨k6, hk6⟩ : ∃ k, Hid (k = wo.heap.size) := ⟨_, rfl⟩
      have ek := hk6.out
      rw [← ek] at H6
      obtain ⟨w1, hw0⟩ : ∃ z, z = wo.alloc (.cells (litC lc6) 5) := ⟨_, rfl⟩
      rw [← hw0] at H6 H16b K1
      have hw1 : wo.alloc (.cells #[.int .u8 0, .int .u8 5, .int .u8 6, .int .u8 127, .int .u8 128, .int .u8 255] 5) = w1 := by rw [hw0]; rfl
      rw [hw1, ← ek]
      clear hw0 hw1 ek hk6 B1 KN H16 ci
      go_loopw [1, 20] (fun rv u wr => ∃ (j : Nat) (M : List Hx), j ≤ 6 ∧ u = .int .i64 (j : Int) ∧ M.length = 12 * i + 2 * j ∧ Hid (Kn w wr M rv) ∧ Hid (wr.heap[k0]? = some (.cells (litC lc16) 5 (0, 0))) ∧ Hid (wr.heap[k6]? = some (.cells (litC lc6) 5 (0, 0)))) (fun _ u _ => 6 - (intOf u).toNat)
      case atStart => exact ⟨0, L, by decide, rfl, HL.out, K1, H16b, H6⟩
      case round =>
        clear K1 H16b H6 HL
        obtain ⟨j, M, hj, rfl, hM, KM, H16, H6⟩ := hrel
        by_cases hlj : j < 6
        · have g2 : (j : Int) < 6 := by omega
          have cj := lit_at H6.out j hlj
          have oj := lit_in oct6 j hlj
          obtain ⟨y, hy⟩ : ∃ y, Hid (y = lc6.getD j 0) := ⟨_, rfl⟩
          rw [← hy.out] at cj oj
          have YI : Hid (0 ≤ y ∧ y < 256) := oj
          have HM : Hid (M.length = 12 * i + 2 * j) := hM
          clear hy oj hM
          have BF : Below wr.heap.size wr (wr.alloc (.cells (frC 0 2 z y 0 0 0 0 0 0 false) 36)) := Below.al (Below.refl _ _) _
          have sz : (wr.alloc (.cells (frC 0 2 z y 0 0 0 0 0 0 false) 36)).heap.size = wr.heap.size + 1 := by simp
          obtain ⟨g, o, cap, w5, AP, K5, kp5⟩ := grow_st (KM.out.next BF) (by rw [HM.out]; omega) z y ZI.out YI.out
          rw [sz] at AP
          have F5 : w5.heap[wr.heap.size]? = some (.cells (frC 0 2 z y 0 0 0 0 0 0 false) 36 (0, 0)) := kp5 _ _ _ (heap_new wr _) (by decide)
          have H16 := kp5 _ _ _ (blk11 BF H16.out) (by decide)
          have H6 := kp5 _ _ _ (blk11 BF H6.out) (by decide)
          have lF : w.heap.size ≤ wr.heap.size := KM.out.bel.size
          clear kp5 sz BF KM
          obtain ⟨rv, hrv⟩ : ∃ rv, Hid (rv = Value.slice (some ⟨g, o, none⟩) (M.length + 2) cap) := ⟨_, rfl⟩
          rw [← hrv.out] at AP K5
          clear hrv
          have f5 := frC_at F5
          have l5 := lt_of_heap F5
          obtain ⟨f0, f1, f2, f3, f4, f5, f6, f7, f8, f9, f10⟩ := f5
          have SC := fun W => stateCommands_any z y ZI.out YI.out 0 2 z y 0 0 0 0 0 0 false (oct_two ZI.out YI.out) W
          go_wp2_with (at_builtin; refine wpList_app_by rfl _ _ _ rfl _ _ rfl rfl _ AP ?_)
          refine (SC _).mono ?_
          rintro e w6 ⟨rfl, hb6⟩
          clear f0 f1 f2 f3 f4 f5 f6 f7 f8 f9 f10 l5 SC AP
          have F6 := blk11 hb6 F5
          have H16 := blk11 hb6 H16
          have H6 := blk11 hb6 H6
          have K6 := K5.next hb6
          clear F5 K5 hb6
          obtain ⟨F, hF⟩ : ∃ F, Hid (F = wr.heap.size) := ⟨_, rfl⟩
          rw [← hF.out] at F6 lF ⊢
          clear hF
          have c10 : w6.cell? ⟨F, 10, none⟩ = some (.bool false) := by rw [cell_of_row w6 _ 10 _ _ _ F6]; rfl
          have z10 := froz11 w6 F 10 _ _ F6
          have lf6 := lt_of_heap F6
          have gS : (w6.setCell ⟨F, 10, none⟩ (.bool true)).heap[F]? = some (.cells (frC 0 2 z y 0 0 0 0 0 0 true) 36 (0, 0)) := heap_setCell_same _ _ _ _ _ _ F6
          have KS : Kn w (w6.setCell ⟨F, 10, none⟩ (.bool true)) _ rv := K6.set F6 (by decide) lF 10 (.bool true)
          have S16 : (w6.setCell ⟨F, 10, none⟩ (.bool true)).heap[k0]? = some (.cells (litC lc16) 5 (0, 0)) := (Below.heap_setCell w6 ⟨F, 10, none⟩ _ _ (ne_of_ty H16 F6 (by decide))).trans H16
          have S6 : (w6.setCell ⟨F, 10, none⟩ (.bool true)).heap[k6]? = some (.cells (litC lc6) 5 (0, 0)) := (Below.heap_setCell w6 ⟨F, 10, none⟩ _ _ (ne_of_ty H6 F6 (by decide))).trans H6
          clear K6 H16 H6 F6
          obtain ⟨f0, f1, f2, f3, f4, f5, f6, f7, f8, f9, f10⟩ := frC_at gS
          clear gS
          have SC := fun W => stateCommands_any z y ZI.out YI.out 0 2 z y 0 0 0 0 0 0 true (oct_two ZI.out YI.out) W
          go_wp2_with fail
          clear f0 f1 f2 f3 f4 f5 f6 f7 f8 f9 f10 c10 z10
          have B7 : Below (w6.setCell ⟨F, 10, none⟩ (.bool true)).heap.size (w6.setCell ⟨F, 10, none⟩ (.bool true)) (((w6.setCell ⟨F, 10, none⟩ (.bool true)).alloc (.cells (frC 0 3 z y 0 0 0 0 0 0 false) 36)).alloc (.cells (frC 1 3 z y 0 0 0 0 0 0 false) 36)) := (by repeat (first | exact Below.refl _ _ | apply Below.drew | apply Below.al))
          have gG : (((w6.setCell ⟨F, 10, none⟩ (.bool true)).alloc (.cells (frC 0 3 z y 0 0 0 0 0 0 false) 36)).alloc (.cells (frC 1 3 z y 0 0 0 0 0 0 false) 36)).heap[w6.heap.size]? = some (.cells (frC 0 3 z y 0 0 0 0 0 0 false) 36 (0, 0)) := ext11 (at11 _ _ _ (by simp))
          have gH : (((w6.setCell ⟨F, 10, none⟩ (.bool true)).alloc (.cells (frC 0 3 z y 0 0 0 0 0 0 false) 36)).alloc (.cells (frC 1 3 z y 0 0 0 0 0 0 false) 36)).heap[w6.heap.size + 1]? = some (.cells (frC 1 3 z y 0 0 0 0 0 0 false) 36 (0, 0)) := at11 _ _ _ (by simp)
          have K7 := KS.next B7
          have H16 := blk11 B7 S16
          have H6 := blk11 B7 S6
          clear KS S16 S6 B7
          generalize hx : ((((w6.setCell ⟨F, 10, none⟩ (.bool true)).alloc (.cells (frC 0 3 z y 0 0 0 0 0 0 false) 36)).alloc (.cells (frC 1 3 z y 0 0 0 0 0 0 false) 36)) : World) = w7 at gG gH K7 H16 H6 ⊢
          clear hx lf6
          obtain ⟨G, hG⟩ : ∃ G, Hid (G = w6.heap.size) := ⟨_, rfl⟩
          rw [← hG.out] at gG gH ⊢
          clear hG lF
          refine (SC _).mono ?_
          rintro e w8 ⟨rfl, hb8⟩
          have gG := blk11 hb8 gG
          have gH := blk11 hb8 gH
          have H16 := blk11 hb8 H16
          have H6 := blk11 hb8 H6
          have K8 := K7.next hb8
          clear hb8 K7 SC
          obtain ⟨f0, f1, f2, f3, f4, f5, f6, f7, f8, f9, f10⟩ := frC_at gG
          have SC := fun W => stateCommands_any z y ZI.out YI.out 0 3 z y 0 0 0 0 0 0 false (oct_two ZI.out YI.out) W
          go_wp2_with fail
          clear f0 f1 f2 f3 f4 f5 f6 f7 f8 f9 f10 gG
          refine (SC _).mono ?_
          rintro e w9 ⟨rfl, hb9⟩
          have gH := blk11 hb9 gH
          have H16 := blk11 hb9 H16
          have H6 := blk11 hb9 H6
          have K9 := K8.next hb9
          clear hb9 K8 SC
          obtain ⟨f0, f1, f2, f3, f4, f5, f6, f7, f8, f9, f10⟩ := frC_at gH
          have SC := fun W => stateCommands_any z y ZI.out YI.out 1 3 z y 0 0 0 0 0 0 false (oct_two ZI.out YI.out) W
          go_wp2_with fail
          clear f0 f1 f2 f3 f4 f5 f6 f7 f8 f9 f10 gH
          refine (SC _).mono ?_
          rintro e w10 ⟨rfl, hb10⟩
          have H16 : Hid _ := blk11 hb10 H16
          have H6 : Hid _ := blk11 hb10 H6
          have KA : Hid (Kn w w10 (M ++ [st1 z y, st2]) rv) := K9.next hb10
          clear hb10 K9 SC
          have wj : IntKind.i64.wrap ((j : Int) + 1) = ((j + 1 : Nat) : Int) := by rw [IntKind.wrap_i64]; omega
          go_wp2_with fail
          exact ⟨⟨j + 1, _, by omega, by go_num, by rw [List.length_append, HM.out]; simp; omega, KA, H16, H6⟩, by simp [intOf]; omega⟩
        · obtain rfl : j = 6 := by omega
          have wi : IntKind.i64.wrap ((i : Int) + 1) = ((i + 1 : Nat) : Int) := by rw [IntKind.wrap_i64]; omega
          go_wp2_with fail
          exact ⟨⟨i + 1, M, by omega, by go_num, by rw [hM]; omega, KM, H16⟩, by simp [intOf]; omega⟩
    · obtain rfl : i = 16 := by omega
      have HL : Hid (L.length = 192) := by show _ = _; rw [hL]
      clear hL H16
      obtain ⟨g, o, cap, rfl, RW⟩ := KN.out.row.pos (by rw [HL.out]; decide)
      have nc : Hid (192 ≤ cap) := by show _ ≤ _; rw [← HL.out]; exact RW.nc
      have ln : (L.length : Int) = 192 := by rw [HL.out]; rfl
      rw [HL.out] at KN ⊢
      clear RW
      go_wp2_with fail
      go_loopw [9] (fun u wr => ∃ n : Nat, n ≤ 200 ∧ u = .int .i64 (n : Int) ∧ Hid (Kn w wr L (.slice (some ⟨g, o, none⟩) 192 cap))) (fun u _ => 300 - (intOf u).toNat)
      case atStart => exact ⟨0, by decide, rfl, KN⟩
      case round =>
        clear KN
        obtain ⟨n, hn, rfl, KN⟩ := hrel
        have wn : IntKind.i64.wrap ((n : Int) + 100) = (n : Int) + 100 := by rw [IntKind.wrap_i64]; omega
        by_cases hln : n + 100 ≤ 192
        · have g3 : (n : Int) + 100 ≤ 192 := by omega
          go_wp2_with fail
          obtain ⟨wo, rfl⟩ : ∃ z, z = wr := ⟨_, rfl⟩
          have B1 : Below wo.heap.size wo (wo.alloc (.cells (litC lc7) 5)) := Below.al (Below.refl _ _) _
          have H7 : Hid ((wo.alloc (.cells (litC lc7) 5)).heap[wo.heap.size]? = some (.cells (litC lc7) 5 (0, 0))) := heap_new wo _
          have K1 : Hid (Kn w (wo.alloc (.cells (litC lc7) 5)) L (.slice (some ⟨g, o, none⟩) 192 cap)) := KN.out.next B1
          obtain ⟨k7, hk7⟩ : ∃ k, Hid (k = wo.heap.size) := ⟨_, rfl⟩
          have ek := hk7.out
          rw [← ek] at H7
          obtain ⟨w1, hw0⟩ : ∃ z, z = wo.alloc (.cells (litC lc7) 5) := ⟨_, rfl⟩
          rw [← hw0] at H7 K1
          have hw1 : wo.alloc (.cells #[.int .u8 0, .int .u8 1, .int .u8 5, .int .u8 6, .int .u8 127, .int .u8 128, .int .u8 255] 5) = w1 := by rw [hw0]; rfl
          rw [hw1, ← ek]
          clear hw0 hw1 ek hk7 B1 KN
          go_loopw [78] (fun u wr => ∃ j : Nat, j ≤ 7 ∧ u = .int .i64 (j : Int) ∧ Hid (Kn w wr L (.slice (some ⟨g, o, none⟩) 192 cap)) ∧ Hid (wr.heap[k7]? = some (.cells (litC lc7) 5 (0, 0)))) (fun u _ => 7 - (intOf u).toNat)
          case atStart => exact ⟨0, by decide, rfl, K1, H7⟩
          case round =>
            clear K1 H7
            obtain ⟨j, hj, rfl, KN, H7⟩ := hrel
            by_cases hlj : j < 7
            · have g4 : (j : Int) < 7 := by omega
              have cj := lit_at H7.out j hlj
              have oj := lit_in oct7 j hlj
              obtain ⟨y, hy⟩ : ∃ y, Hid (y = lc7.getD j 0) := ⟨_, rfl⟩
              rw [← hy.out] at cj oj
              have YI : Hid (0 ≤ y ∧ y < 256) := oj
              clear hy oj
              have SB := fun W => sub_run (g := g) (o := o) (n := 192) (cap := cap) (i := n) (m := 100) (by have := nc.out; omega) (by decide) W
              have SB : ∀ W, (Instr.sliceAt 22 (.slice (some ⟨g, o, none⟩) 192 cap) (some (.int .i64 (n : Int))) (some (.int .i64 ((n : Int) + 100))) none).run Try.prog W = .ok (.slice (some ⟨g, o + n * 12, none⟩) 100 (cap - n)) W := SB
              obtain ⟨o2, ho2⟩ : ∃ x, Hid (x = o + n * 12) := ⟨_, rfl⟩
              obtain ⟨cp, hcp⟩ : ∃ x, Hid (x = cap - n) := ⟨_, rfl⟩
              rw [← ho2.out, ← hcp.out] at SB
              have IS : Hid (∀ W, Kn w W L (.slice (some ⟨g, o, none⟩) 192 cap) → ∃ M, IsHx W (some ⟨g, o2, none⟩) 100 M) := fun W hW => by
                obtain ⟨g', o', cap', e, RW⟩ := hW.row.pos (by rw [HL.out]; decide)
                rw [HL.out] at e
                cases e
                rw [ho2.out]
                exact ⟨_, isHx_sub RW hW.oct n 100 (by rw [HL.out]; exact hln)⟩
              clear ho2 hcp
              go_wp2_with fail
              obtain ⟨M, hM⟩ := IS.out _ KN.out
              refine (statePlays_any y YI.out.1 (some ⟨g, o2, none⟩) 100 cp M _ hM).mono ?_
              rintro e w3 ⟨rfl, hb3⟩
              have K3 := KN.out.next hb3
              have H3 := blk11 hb3 H7.out
              clear hM KN H7 hb3 cj
              go_wp2_with fail
              obtain ⟨M, hM⟩ := IS.out _ K3
              refine (stateStarts_any y YI.out.1 (some ⟨g, o2, none⟩) 100 cp M _ hM).mono ?_
              rintro e w4 ⟨rfl, hb4⟩
              have K4 : Hid (Kn w w4 L (.slice (some ⟨g, o, none⟩) 192 cap)) := K3.next hb4
              have H4 : Hid (w4.heap[k7]? = some (.cells (litC lc7) 5 (0, 0))) := blk11 hb4 H3
              clear hM K3 H3 hb4 IS SB
              have wj : IntKind.i64.wrap ((j : Int) + 1) = ((j + 1 : Nat) : Int) := by rw [IntKind.wrap_i64]; omega
              go_wp2_with fail
              refine ⟨⟨_, _, _, _, _, _, _, _, _, _, _, _, _, _, _, _, _, _, _, _, _, _, _, _, _, ⟨j + 1, by omega, by go_num, K4, H4⟩, rfl⟩, ?_⟩
              show 7 - ((j : Int) + 1).toNat < 7 - ((j : Int)).toNat
              omega
            · obtain rfl : j = 7 := by omega
              have w17 : IntKind.i64.wrap ((n : Int) + 17) = ((n + 17 : Nat) : Int) := by rw [IntKind.wrap_i64]; omega
              go_wp2_with fail
              exact ⟨⟨n + 17, by omega, by go_num, KN⟩, by simp [intOf]; omega⟩
        · have g3 : ¬ (n : Int) + 100 ≤ 192 := by omega
          have SH := fun W => sub_head (g := g) (o := o) (n := 192) (cap := cap) (by have := nc.out; omega) W
          go_wp2_with fail
          obtain ⟨M, hM⟩ : ∃ M, IsHx wr (some ⟨g, o, none⟩) 1 M := by
            obtain ⟨g', o', cap', e, RW⟩ := KN.out.row.pos (by rw [HL.out]; decide)
            rw [HL.out] at e
            cases e
            exact ⟨_, isHx_sub RW KN.out.oct 0 1 (by rw [HL.out]; decide)⟩
          refine (statePlays_any 5 (by decide) (some ⟨g, o, none⟩) 1 cap M _ hM).mono ?_
          rintro e w3 ⟨rfl, hb3⟩
          have B3 := (KN.out.next hb3).bel
          clear hM KN hb3 SH
          go_wp2_with fail
          refine (works_any _).mono ?_
          rintro e w4 ⟨rfl, hb4⟩
          have B4 := Below.andThen B3 hb4
          go_wp2_with fail
          go_ret
          exact ⟨rfl, B4⟩
#print axioms stateKnown_any
end Go.Proofs.Ytjfjfohabpjemaa
