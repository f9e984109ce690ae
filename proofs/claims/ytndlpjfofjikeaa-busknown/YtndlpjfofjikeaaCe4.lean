/-
  The walk of BusOnce.
-/
import Derived.Test.YtndlpjfofjikeaaCd4
namespace Go.Proofs.Ytndlpjfofjikeaa
open Go.RowKit


set_option linter.unusedSimpArgs false in
set_option maxHeartbeats 40000000 in
set_option maxRecDepth 100000 in
theorem busOnce_any {w0 : World} {fa na : Option Addr} {flen fcap nlen ncap : Nat} {fs : List Sn} {zs : List Int} (hF : IsFs w0 fa flen fs) (hZ : IsNs w0 na nlen zs) :
    Calls Try.prog 5 #[.slice fa flen fcap, .slice na nlen ncap] w0 fun e w' => e = .returned (.bool true) ∧ Below w0.heap.size w0 w' := by
  by_cases h300 : 300 < flen
  · have g3 : (flen : Int) > 300 := by omega
    have g4 : (300 : Int) < (flen : Int) := by omega
    clear hF hZ
    go_enter Try.func5, Try.ntmps5
    go_wp2_with fail
    go_ret
    exact ⟨rfl, Below.refl _ _⟩
  have g3 : ¬ (flen : Int) > 300 := by omega
  have g4 : ¬ (300 : Int) < (flen : Int) := by omega
  obtain ⟨i0, hi, hz0, hz1, hz2⟩ := info_parts infoS
  have NW := new_any w0
  go_enter Try.func5, Try.ntmps5
  go_wp2_with fail
  refine NW.mono ?_
  rintro e w1 ⟨rfl, E1⟩
  clear NW
  have HE1 : Hid _ := E1
  clear E1
  go_wp2_with fail
  go_loopw [6, 7, 8] (fun u6 u7 u8 vr => ∃ (cv v : Value) (l C : List Sn) (n i : Nat), cv = u6 ∧ u7 = .int .i64 (n : Int) ∧ u8 = .int .i64 (i : Int) ∧ n ≤ i ∧ i ≤ flen ∧ Ev w0 vr w0.heap.size v cv l C n) (fun _ _ u8 _ => flen - (intOf u8).toNat)
  case atStart => exact ⟨_, _, _, _, 0, 0, rfl, rfl, rfl, Nat.le_refl _, Nat.zero_le _, HE1.out⟩
  case round =>
    clear HE1
    obtain ⟨cv, v, l, C, n, i, rfl, rfl, rfl, hni, hif, E⟩ := hrel
    by_cases hlt : i < flen
    · 
      have gi : (i : Int) < (flen : Int) := by omega
      obtain ⟨fb, fo, y0, rfl, hy, LDF⟩ := hF.load E.bel i hlt
      obtain ⟨q7, hq7⟩ : ∃ q7, Hid (q7 = i % 7) := ⟨_, rfl⟩
      have w7 : (i : Int).tmod 7 = (q7 : Int) := by rw [hq7.out, Int.tmod_eq_emod_of_nonneg (by omega)]; omega
      have SE := send_ev E (by omega) ⟨(q7 : Int), y0.i, y0.n, y0.d0, y0.d1, y0.d2, y0.d3, y0.d4, y0.d5, y0.d6, y0.d7, y0.r, (n : Int)⟩ rfl (hF.oct y0 hy)
      dsimp only at SE
      have wi : IntKind.i64.wrap ((i : Int) + 1) = ((i + 1 : Nat) : Int) := by rw [IntKind.wrap_i64]; omega
      have wn : IntKind.i64.wrap ((n : Int) + 1) = ((n + 1 : Nat) : Int) := by rw [IntKind.wrap_i64]; omega
      clear E
      go_wp2_with (refine wpList_load_by rfl 27 (.tmp 35) rfl _ _ rfl LDF ?_)
      refine SE.mono ?_
      clear SE LDF
      rintro e z (⟨E0, rfl, hE0, E⟩ | ⟨v', l', rfl, E⟩)
      · 
        have HE : Hid _ := E
        clear E
        go_wp2_with fail
        go_loopw [6, 9] (fun u6 u9 vr => ∃ (cv v : Value) (l C : List Sn) (k : Nat), cv = u6 ∧ u9 = .int .i64 (k : Int) ∧ k ≤ 4 ∧ Ev w0 vr w0.heap.size v cv l C n) (fun _ u9 _ => 4 - (intOf u9).toNat)
        case atStart => exact ⟨_, _, _, _, 0, rfl, rfl, by omega, HE.out⟩
        case round =>
          clear HE
          obtain ⟨cv, v, l, C, k, rfl, rfl, hk, E⟩ := hrel
          have HE : Hid _ := E
          clear E
          have HML : Hid (n ≤ 300) := by show n ≤ 300; omega
          by_cases hin : i < nlen
          rotate_left
          · have gn : ¬ (i : Int) < (nlen : Int) := by omega
            go_wp2_with fail
            exact ⟨⟨cv, v, l, C, n, i + 1, rfl, rfl, rfl, by omega, by omega, HE.out⟩, by simp [intOf]; omega⟩
          have gn : (i : Int) < (nlen : Int) := by omega
          obtain ⟨nb, no, rfl, LZ⟩ := hZ.load HE.out.bel i hin
          generalize zs.getD i 0 = zi at *
          have PK := pick_any zi 4 (by decide) (by decide) wr
          obtain ⟨pq1, pq2⟩ := pickN_in zi 4 (by decide)
          generalize pickN zi 4 = q at *
          go_wp2_with fail
          refine PK.mono ?_
          rintro e z0 ⟨rfl, rfl⟩
          clear PK
          by_cases hkq : (k : Int) < q
          rotate_left
          · 
            go_wp2_with fail
            exact ⟨⟨cv, v, l, C, n, i + 1, rfl, rfl, rfl, by omega, by omega, HE.out⟩, by simp [intOf]; omega⟩
          have NX := next_ev HE.out (by omega)
          go_wp2_with fail
          refine NX.mono ?_
          clear NX
          rintro e z1 (⟨_, rfl, bz⟩ | ⟨x, v', m, rfl, T0, hml, _⟩)
          · have HE2 : Hid (∀ o, Ev w0 (z1.alloc o) w0.heap.size v cv l C n) := fun o => (HE.out.next bz).next (Below.al (Below.refl _ _) o)
            clear HE bz
            go_wp2_with fail
            exact ⟨⟨cv, v, l, C, n, i + 1, rfl, rfl, rfl, by omega, by omega, HE2.out _⟩, by simp [intOf]; omega⟩
          have T : Hid _ := T0
          have HMM : Hid (m.length ≤ 1000000) := by show m.length ≤ 1000000; have := T0.o.len; omega
          have WT : Hid (∀ o, Calls Try.prog 17 #[.pointer (some ⟨w0.heap.size, 0, none⟩)] (z1.alloc o) fun e w' => (∃ a c mm, e = .returned (.slice a m.length c) ∧ (0 < m.length → ∃ g, a = some ⟨g, 0, none⟩ ∧ IsL w' (z1.alloc o).heap.size (.slice (some ⟨g, 0, none⟩) m.length c) mm) ∧ mm.Perm m ∧ InOrder mm) ∧ Below (z1.alloc o).heap.size (z1.alloc o) w') := fun o => waits_any (T.out.next (Below.al (Below.refl _ _) o)).b HMM.out
          have HML : Hid (m.length ≤ 300) := by show m.length ≤ 300; have := T0.o.len; have := HML.out; omega
          have ST := run_storeVar_new (P := Try.prog) z1 42 #[.int .i64 0, .int .u16 0, .int .i64 0, .int .u8 0, .int .u8 0, .int .u8 0, .int .u8 0, .int .u8 0, .int .u8 0, .int .u8 0, .int .u8 0, .bool false, .int .i64 0] x.A size42 rfl (by simp [Value.oneCell'])
          clear T0 HE hml
          go_wp2_with (refine wpList_store_by rfl 42 (.tmp 10) (.tmp 59) rfl _ _ rfl rfl ST ?_)
          refine (WT.out _).mono ?_
          rintro e z2 ⟨⟨aw, cw, mm, rfl, hrow, hperm, hord⟩, bz2⟩
          clear WT ST
          have T2 : Hid (Tk w0 z2 w0.heap.size v' cv m C n x) := (T.out.next (Below.al (Below.refl _ _) _)).next bz2
          have SB : z2.heap[z1.heap.size]? = some (.cells x.A 42 (0, 0)) := (bz2.block z1.heap.size (by simp)).trans (heap_alloc_last z1 _)
          obtain ⟨sb, hsb⟩ : ∃ sb, Hid (sb = z1.heap.size) := ⟨_, rfl⟩
          rw [← hsb.out] at SB
          have SBH : Hid _ := SB
          have ROW : Hid (∀ j, j < m.length → ∃ g, aw = some ⟨g, 0, none⟩ ∧ ∀ vr, Below z2.heap.size z2 vr → vr.cell? ⟨g, j * 13 + 1, none⟩ = some (.int .u16 (at_ mm j).i) ∧ ¬ (at_ mm j).i < x.i) := fun j hj => by
            obtain ⟨g, e, hI⟩ := hrow (by omega)
            have hl : mm.length = m.length := hperm.length_eq
            rw [← hl] at hI
            refine ⟨g, e, fun vr hb => ⟨?_, ?_⟩⟩
            · have c := IsL.cell hI j (at_ mm j) (at_some mm j (by omega)) 1 _ rfl
              rw [hb.cell (p := ⟨g, j * 13 + 1, none⟩) (lt_of_cell c)]
              exact c
            · have hm : at_ mm j ∈ m := hperm.mem_iff.1 (at_mem (by omega))
              have := T.out.lst _ hm
              rw [le_iff] at this
              exact fun e => this (.inl e)
          obtain ⟨N, hN⟩ : ∃ N, Hid (N = m.length) := ⟨_, rfl⟩
          rw [← hN.out, ← hsb.out]
          rw [← hN.out] at ROW
          clear T bz2 SB hrow hperm hord
          go_wp2_with fail
          go_loopw [13] (fun u13 vr => ∃ j : Nat, u13 = .int .i64 (j : Int) ∧ j ≤ N ∧ Below z2.heap.size z2 vr) (fun u13 _ => N - (intOf u13).toNat)
          case atStart => exact ⟨0, rfl, Nat.zero_le _, Below.refl _ _⟩
          case round =>
            obtain ⟨j, rfl, hj, bj⟩ := hrel
            by_cases hjn : j < N
            · have gj : (j : Int) < (N : Int) := by omega
              obtain ⟨g, rfl, hg⟩ := ROW.out j hjn
              obtain ⟨c1, hnl⟩ := hg wr bj
              have c2 : wr.cell? ⟨sb, 1, none⟩ = some (.int .u16 x.i) := by rw [cell_of_row wr sb 1 x.A 42 (0, 0) ((bj.block sb (lt_of_heap SBH.out)).trans SBH.out)]; rfl
              have wj : IntKind.i64.wrap ((j : Int) + 1) = ((j + 1 : Nat) : Int) := by rw [IntKind.wrap_i64]; have := hN.out; have := HML.out; omega
              have BJ : Hid (∀ k, Below z2.heap.size z2 (wr.drewN k)) := fun k => Below.andThen bj ⟨rfl, rfl, rfl, Nat.le_refl _, fun _ _ => rfl⟩
              generalize (at_ mm j).i = I at *
              clear hg ROW bj T2 SBH
              go_wp2_with fail
              go_quiet (fail)
              go_wp2_with fail
              exact ⟨⟨j + 1, rfl, by omega, BJ.out _⟩, by simp [intOf]; omega⟩
            · have gj : ¬ (j : Int) < (N : Int) := by omega
              have T3 : Hid _ := T2.out.next bj
              have SBr : wr.heap[sb]? = some (.cells x.A 42 (0, 0)) := (bj.block sb (lt_of_heap SBH.out)).trans SBH.out
              clear T2 SBH ROW bj
              have wk : IntKind.i64.wrap ((k : Int) + 1) = ((k + 1 : Nat) : Int) := by rw [IntKind.wrap_i64]; omega
              have LD := run_loadVar_row (P := Try.prog) wr sb 42 42 x.A (0, 0) _ SBr Try.underlying42 rfl size42
              have OWN : Hid (∀ o, IsL (wr.alloc o) (w0.heap.size + 1) cv C) := fun o => (T3.out.next (Below.al (Below.refl _ _) o)).c
              have BAS : Hid (w0.heap.size + 1 ≤ wr.heap.size) := lt_of_heap T3.out.b.head
              have AP : Hid (∀ o g c z, (wr.alloc o).grownBy z cv.ownBlock → (cv.ownBlock = some g ∨ g = (wr.alloc o).heap.size) → IsL z (w0.heap.size + 1) (.slice (some ⟨g, 0, none⟩) (C.length + 1) c) (C ++ [x]) → Ev w0 z w0.heap.size v' (.slice (some ⟨g, 0, none⟩) (C.length + 1) c) m (C ++ [x]) n) := fun o g c z hg hat hc => by
                have T4 := T3.out.next (Below.al (Below.refl _ _) o)
                exact Ev.app T4.b T4.c T4.d T4.hp T4.bel T4.hh T4.o hc hg (fun k hk => by
                  simp only [Value.ownBlock] at hk
                  cases hk
                  exact hat.imp id (fun e => by omega))
              have CL : Hid (C.length ≤ 1000) := by show C.length ≤ 1000; have := T3.out.o.len; rw [List.length_append] at this; omega
              clear T3
              go_wp2_with (first | refine wpList_load_by rfl 42 (.tmp 10) rfl _ _ rfl LD ?_ | (at_builtin; refine wpList_append_lies _ rfl _ _ 48 rfl (w0.heap.size + 1) 42 i0 _ 13 48 Try.underlying48 hi hz0 hz1 hz2 rfl (by decide) _ C.length (flat C) rfl (OWN.out _) ⟨wr.heap.size, 0, none⟩ 1 1 x.L rfl (Sn.L_len x) (fun j u hj => by rw [Addr.add_lit, Nat.zero_add, World.cell?_alloc_new, ← hj]; simp [Sn.L]) (fun u hu => by simp [Sn.L] at hu; rcases hu with rfl | rfl | rfl | rfl | rfl | rfl | rfl | rfl | rfl | rfl | rfl | rfl | rfl <;> rfl) (by decide) (by have := CL.out; unfold maxLen; omega) (by have := CL.out; omega) (by have := BAS.out; simp; omega) _ rfl ?_; intro g9 c9 z9 hown hgrow hat hlt9))
              have hc9 : IsL z9 (w0.heap.size + 1) (.slice (some ⟨g9, 0, none⟩) (C.length + 1) c9) (C ++ [x]) := by
                show z9.ownsRow (w0.heap.size + 1) 42 13 _ (C ++ [x]).length (flat (C ++ [x]))
                rw [flat_app, flat_one, List.length_append]
                exact hown
              have E9 : Hid _ := AP.out _ g9 c9 z9 hgrow hat hc9
              clear AP hown hgrow hat hlt9 hc9 OWN BAS LD
              go_wp2_with fail
              first
                | exact ⟨⟨_, v', m, C ++ [x], k + 1, rfl, rfl, by omega, E9.out⟩, by simp [intOf]; omega⟩
                | exact ⟨⟨_, _, _, ⟨v', m, C ++ [x], k + 1, rfl, by omega, E9.out⟩, rfl, rfl, by simp⟩, by simp [intOf]; omega⟩
                | exact ⟨⟨v', m, C ++ [x], k + 1, by simp, by omega, E9.out⟩, by simp [intOf]; omega⟩
      · 
        have HE : Hid _ := E
        clear E
        go_wp2_with fail
        go_loopw [6, 9] (fun u6 u9 vr => ∃ (cv v : Value) (l C : List Sn) (k : Nat), cv = u6 ∧ u9 = .int .i64 (k : Int) ∧ k ≤ 4 ∧ Ev w0 vr w0.heap.size v cv l C (n + 1)) (fun _ u9 _ => 4 - (intOf u9).toNat)
        case atStart => exact ⟨_, _, _, _, 0, rfl, rfl, by omega, HE.out⟩
        case round =>
          clear HE
          obtain ⟨cv, v, l, C, k, rfl, rfl, hk, E⟩ := hrel
          have HE : Hid _ := E
          clear E
          have HML : Hid ((n + 1) ≤ 300) := by show (n + 1) ≤ 300; omega
          by_cases hin : i < nlen
          rotate_left
          · have gn : ¬ (i : Int) < (nlen : Int) := by omega
            go_wp2_with fail
            exact ⟨⟨cv, v, l, C, (n + 1), i + 1, rfl, rfl, rfl, by omega, by omega, HE.out⟩, by simp [intOf]; omega⟩
          have gn : (i : Int) < (nlen : Int) := by omega
          obtain ⟨nb, no, rfl, LZ⟩ := hZ.load HE.out.bel i hin
          generalize zs.getD i 0 = zi at *
          have PK := pick_any zi 4 (by decide) (by decide) wr
          obtain ⟨pq1, pq2⟩ := pickN_in zi 4 (by decide)
          generalize pickN zi 4 = q at *
          go_wp2_with fail
          refine PK.mono ?_
          rintro e z0 ⟨rfl, rfl⟩
          clear PK
          by_cases hkq : (k : Int) < q
          rotate_left
          · 
            go_wp2_with fail
            exact ⟨⟨cv, v, l, C, (n + 1), i + 1, rfl, rfl, rfl, by omega, by omega, HE.out⟩, by simp [intOf]; omega⟩
          have NX := next_ev HE.out (by omega)
          go_wp2_with fail
          refine NX.mono ?_
          clear NX
          rintro e z1 (⟨_, rfl, bz⟩ | ⟨x, v', m, rfl, T0, hml, _⟩)
          · have HE2 : Hid (∀ o, Ev w0 (z1.alloc o) w0.heap.size v cv l C (n + 1)) := fun o => (HE.out.next bz).next (Below.al (Below.refl _ _) o)
            clear HE bz
            go_wp2_with fail
            exact ⟨⟨cv, v, l, C, (n + 1), i + 1, rfl, rfl, rfl, by omega, by omega, HE2.out _⟩, by simp [intOf]; omega⟩
          have T : Hid _ := T0
          have HMM : Hid (m.length ≤ 1000000) := by show m.length ≤ 1000000; have := T0.o.len; omega
          have WT : Hid (∀ o, Calls Try.prog 17 #[.pointer (some ⟨w0.heap.size, 0, none⟩)] (z1.alloc o) fun e w' => (∃ a c mm, e = .returned (.slice a m.length c) ∧ (0 < m.length → ∃ g, a = some ⟨g, 0, none⟩ ∧ IsL w' (z1.alloc o).heap.size (.slice (some ⟨g, 0, none⟩) m.length c) mm) ∧ mm.Perm m ∧ InOrder mm) ∧ Below (z1.alloc o).heap.size (z1.alloc o) w') := fun o => waits_any (T.out.next (Below.al (Below.refl _ _) o)).b HMM.out
          have HML : Hid (m.length ≤ 300) := by show m.length ≤ 300; have := T0.o.len; have := HML.out; omega
          have ST := run_storeVar_new (P := Try.prog) z1 42 #[.int .i64 0, .int .u16 0, .int .i64 0, .int .u8 0, .int .u8 0, .int .u8 0, .int .u8 0, .int .u8 0, .int .u8 0, .int .u8 0, .int .u8 0, .bool false, .int .i64 0] x.A size42 rfl (by simp [Value.oneCell'])
          clear T0 HE hml
          go_wp2_with (refine wpList_store_by rfl 42 (.tmp 10) (.tmp 59) rfl _ _ rfl rfl ST ?_)
          refine (WT.out _).mono ?_
          rintro e z2 ⟨⟨aw, cw, mm, rfl, hrow, hperm, hord⟩, bz2⟩
          clear WT ST
          have T2 : Hid (Tk w0 z2 w0.heap.size v' cv m C (n + 1) x) := (T.out.next (Below.al (Below.refl _ _) _)).next bz2
          have SB : z2.heap[z1.heap.size]? = some (.cells x.A 42 (0, 0)) := (bz2.block z1.heap.size (by simp)).trans (heap_alloc_last z1 _)
          obtain ⟨sb, hsb⟩ : ∃ sb, Hid (sb = z1.heap.size) := ⟨_, rfl⟩
          rw [← hsb.out] at SB
          have SBH : Hid _ := SB
          have ROW : Hid (∀ j, j < m.length → ∃ g, aw = some ⟨g, 0, none⟩ ∧ ∀ vr, Below z2.heap.size z2 vr → vr.cell? ⟨g, j * 13 + 1, none⟩ = some (.int .u16 (at_ mm j).i) ∧ ¬ (at_ mm j).i < x.i) := fun j hj => by
            obtain ⟨g, e, hI⟩ := hrow (by omega)
            have hl : mm.length = m.length := hperm.length_eq
            rw [← hl] at hI
            refine ⟨g, e, fun vr hb => ⟨?_, ?_⟩⟩
            · have c := IsL.cell hI j (at_ mm j) (at_some mm j (by omega)) 1 _ rfl
              rw [hb.cell (p := ⟨g, j * 13 + 1, none⟩) (lt_of_cell c)]
              exact c
            · have hm : at_ mm j ∈ m := hperm.mem_iff.1 (at_mem (by omega))
              have := T.out.lst _ hm
              rw [le_iff] at this
              exact fun e => this (.inl e)
          obtain ⟨N, hN⟩ : ∃ N, Hid (N = m.length) := ⟨_, rfl⟩
          rw [← hN.out, ← hsb.out]
          rw [← hN.out] at ROW
          clear T bz2 SB hrow hperm hord
          go_wp2_with fail
          go_loopw [13] (fun u13 vr => ∃ j : Nat, u13 = .int .i64 (j : Int) ∧ j ≤ N ∧ Below z2.heap.size z2 vr) (fun u13 _ => N - (intOf u13).toNat)
          case atStart => exact ⟨0, rfl, Nat.zero_le _, Below.refl _ _⟩
          case round =>
            obtain ⟨j, rfl, hj, bj⟩ := hrel
            by_cases hjn : j < N
            · have gj : (j : Int) < (N : Int) := by omega
              obtain ⟨g, rfl, hg⟩ := ROW.out j hjn
              obtain ⟨c1, hnl⟩ := hg wr bj
              have c2 : wr.cell? ⟨sb, 1, none⟩ = some (.int .u16 x.i) := by rw [cell_of_row wr sb 1 x.A 42 (0, 0) ((bj.block sb (lt_of_heap SBH.out)).trans SBH.out)]; rfl
              have wj : IntKind.i64.wrap ((j : Int) + 1) = ((j + 1 : Nat) : Int) := by rw [IntKind.wrap_i64]; have := hN.out; have := HML.out; omega
              have BJ : Hid (∀ k, Below z2.heap.size z2 (wr.drewN k)) := fun k => Below.andThen bj ⟨rfl, rfl, rfl, Nat.le_refl _, fun _ _ => rfl⟩
              generalize (at_ mm j).i = I at *
              clear hg ROW bj T2 SBH
              go_wp2_with fail
              go_quiet (fail)
              go_wp2_with fail
              exact ⟨⟨j + 1, rfl, by omega, BJ.out _⟩, by simp [intOf]; omega⟩
            · have gj : ¬ (j : Int) < (N : Int) := by omega
              have T3 : Hid _ := T2.out.next bj
              have SBr : wr.heap[sb]? = some (.cells x.A 42 (0, 0)) := (bj.block sb (lt_of_heap SBH.out)).trans SBH.out
              clear T2 SBH ROW bj
              have wk : IntKind.i64.wrap ((k : Int) + 1) = ((k + 1 : Nat) : Int) := by rw [IntKind.wrap_i64]; omega
              have LD := run_loadVar_row (P := Try.prog) wr sb 42 42 x.A (0, 0) _ SBr Try.underlying42 rfl size42
              have OWN : Hid (∀ o, IsL (wr.alloc o) (w0.heap.size + 1) cv C) := fun o => (T3.out.next (Below.al (Below.refl _ _) o)).c
              have BAS : Hid (w0.heap.size + 1 ≤ wr.heap.size) := lt_of_heap T3.out.b.head
              have AP : Hid (∀ o g c z, (wr.alloc o).grownBy z cv.ownBlock → (cv.ownBlock = some g ∨ g = (wr.alloc o).heap.size) → IsL z (w0.heap.size + 1) (.slice (some ⟨g, 0, none⟩) (C.length + 1) c) (C ++ [x]) → Ev w0 z w0.heap.size v' (.slice (some ⟨g, 0, none⟩) (C.length + 1) c) m (C ++ [x]) (n + 1)) := fun o g c z hg hat hc => by
                have T4 := T3.out.next (Below.al (Below.refl _ _) o)
                exact Ev.app T4.b T4.c T4.d T4.hp T4.bel T4.hh T4.o hc hg (fun k hk => by
                  simp only [Value.ownBlock] at hk
                  cases hk
                  exact hat.imp id (fun e => by omega))
              have CL : Hid (C.length ≤ 1000) := by show C.length ≤ 1000; have := T3.out.o.len; rw [List.length_append] at this; omega
              clear T3
              go_wp2_with (first | refine wpList_load_by rfl 42 (.tmp 10) rfl _ _ rfl LD ?_ | (at_builtin; refine wpList_append_lies _ rfl _ _ 48 rfl (w0.heap.size + 1) 42 i0 _ 13 48 Try.underlying48 hi hz0 hz1 hz2 rfl (by decide) _ C.length (flat C) rfl (OWN.out _) ⟨wr.heap.size, 0, none⟩ 1 1 x.L rfl (Sn.L_len x) (fun j u hj => by rw [Addr.add_lit, Nat.zero_add, World.cell?_alloc_new, ← hj]; simp [Sn.L]) (fun u hu => by simp [Sn.L] at hu; rcases hu with rfl | rfl | rfl | rfl | rfl | rfl | rfl | rfl | rfl | rfl | rfl | rfl | rfl <;> rfl) (by decide) (by have := CL.out; unfold maxLen; omega) (by have := CL.out; omega) (by have := BAS.out; simp; omega) _ rfl ?_; intro g9 c9 z9 hown hgrow hat hlt9))
              have hc9 : IsL z9 (w0.heap.size + 1) (.slice (some ⟨g9, 0, none⟩) (C.length + 1) c9) (C ++ [x]) := by
                show z9.ownsRow (w0.heap.size + 1) 42 13 _ (C ++ [x]).length (flat (C ++ [x]))
                rw [flat_app, flat_one, List.length_append]
                exact hown
              have E9 : Hid _ := AP.out _ g9 c9 z9 hgrow hat hc9
              clear AP hown hgrow hat hlt9 hc9 OWN BAS LD
              go_wp2_with fail
              first
                | exact ⟨⟨_, v', m, C ++ [x], k + 1, rfl, rfl, by omega, E9.out⟩, by simp [intOf]; omega⟩
                | exact ⟨⟨_, _, _, ⟨v', m, C ++ [x], k + 1, rfl, by omega, E9.out⟩, rfl, rfl, by simp⟩, by simp [intOf]; omega⟩
                | exact ⟨⟨v', m, C ++ [x], k + 1, by simp, by omega, E9.out⟩, by simp [intOf]; omega⟩
    · 
      have gi : ¬ (i : Int) < (flen : Int) := by omega
      have hnf : n ≤ flen := by omega
      have HE : Hid _ := E
      clear E hni hif hlt
      go_wp2_with fail
      go_loopw [6] (fun u6 vr => ∃ (cv v : Value) (l C : List Sn), cv = u6 ∧ Ev w0 vr w0.heap.size v cv l C n) (fun u6 _ => 301 - lenV u6)
      case atStart => exact ⟨_, _, _, _, rfl, HE.out⟩
      case round =>
        clear HE
        obtain ⟨cv, v, l, C, rfl, E⟩ := hrel
        have HE : Hid _ := E
        clear E
        have NX := next_ev HE.out (by omega)
        go_wp2_with fail
        refine NX.mono ?_
        clear NX
        rintro e z1 (⟨hl0, rfl, bz⟩ | ⟨x, v', m, rfl, T0, hml, _⟩)
        · 
          obtain ⟨M, hM⟩ : ∃ M, Hid (M = flen + 1) := ⟨_, rfl⟩
          have wM : IntKind.i64.wrap ((flen : Int) + 1) = (M : Int) := by rw [hM.out, IntKind.wrap_i64]; omega
          have MK := fun w => make_bool M (by have := hM.out; omega) w
          subst hl0
          have E5 : Hid (∀ o o', Ev w0 ((z1.alloc o).alloc o') w0.heap.size v cv [] C n) := fun o o' => ((HE.out.next bz).next (Below.al (Below.refl _ _) o)).next (Below.al (Below.refl _ _) o')
          have CB : Hid (∀ g, cv.ownBlock = some g → g < z1.heap.size) := fun g hg => ((HE.out.next bz).c.lt g hg).2
          have PB : Hid (w0.heap.size < z1.heap.size) := lt_of_heap (HE.out.next bz).b.head
          have VB : Hid (∀ g, v.ownBlock = some g → g < z1.heap.size) := fun g hg => ((HE.out.next bz).b.own.lt g hg).2
          have SZ0 : Hid (∀ o, Seen ((z1.alloc o).alloc (.cells (madeCells #[.bool false] M) 4)) (z1.heap.size + 1) M C 0 (List.replicate M false)) := fun o => by have := Seen.zero (z1.alloc o) M C; rw [show (z1.alloc o).heap.size = z1.heap.size + 1 from by simp] at this; exact this
          clear HE bz
          go_wp2_with fail
          obtain ⟨qq, hqq⟩ : ∃ qq, Hid (qq = z1.heap.size + 1) := ⟨_, rfl⟩
          rw [← hqq.out] at SZ0 ⊢
          obtain ⟨zM, hzM⟩ : ∃ zM, Hid (zM = (z1.alloc (.cells #[.int .i64 0, .int .u16 0, .int .i64 0, .int .u8 0, .int .u8 0, .int .u8 0, .int .u8 0, .int .u8 0, .int .u8 0, .int .u8 0, .int .u8 0, .bool false, .int .i64 0] 42)).alloc (.cells (madeCells #[.bool false] M) 4)) := ⟨_, rfl⟩
          have SZ : Hid (Seen zM qq (flen + 1) C 0 (List.replicate M false)) := by show Seen zM qq (flen + 1) C 0 _; rw [hzM.out, ← hM.out]; exact SZ0.out _
          have E6 : Hid (Ev w0 zM w0.heap.size v cv [] C n) := by show Ev _ _ _ _ _ _ _ _; rw [hzM.out]; exact E5.out _ _
          rw [← hzM.out]
          have HO : Hid (Once C [] n) := E6.out.o
          have HNL : Hid (n ≤ flen) := by show n ≤ flen; omega
          have HCL : Hid (C.length ≤ 300) := by show C.length ≤ 300; have := E6.out.o.len; omega
          have HQ : Hid (w0.heap.size ≤ qq) := by show _ ≤ _; have := hqq.out; have := PB.out; omega
          have BM : Hid (Below w0.heap.size w0 zM) := E6.out.bel
          have BB : Hid (∀ vr, Kp [qq] zM vr → IsB vr (w0.heap.size + 1) w0.heap.size v [] (n : Int)) := fun vr k => ⟨by rw [k.block w0.heap.size (lt_of_heap E6.out.b.head) (by have := hqq.out; have := PB.out; simp; omega)]; exact E6.out.b.head, isL_same E6.out.b.own (fun g hg => k.block g (E6.out.b.own.lt g hg).2 (by have := hqq.out; have := VB.out g hg; simp; omega)), E6.out.b.lt⟩
          have ROWC : Hid (∀ i, i < C.length → ∃ g c, cv = .slice (some ⟨g, 0, none⟩) C.length c ∧ ∀ vr, Kp [qq] zM vr → ∀ k, k < C.length → vr.cell? ⟨g, k * 13 + 1, none⟩ = some (.int .u16 (at_ C k).i) ∧ vr.cell? ⟨g, k * 13 + 11, none⟩ = some (.bool (at_ C k).r) ∧ vr.cell? ⟨g, k * 13 + 12, none⟩ = some (.int .i64 (at_ C k).nm)) := fun i hi => by
            obtain ⟨g, c, e⟩ := IsL.some E6.out.c (fun e => by rw [e] at hi; simp at hi)
            have hc := E6.out.c
            rw [e] at hc
            have hg : g ∉ [qq] := by have := hqq.out; have := CB.out g (by rw [e]; rfl); simp; omega
            refine ⟨g, c, e, fun vr k6 k hk => ⟨?_, ?_, ?_⟩⟩
            · exact k6.cell (IsL.cell hc k _ (at_some C k hk) 1 _ rfl) hg
            · exact k6.cell (IsL.cell hc k _ (at_some C k hk) 11 _ rfl) hg
            · exact k6.cell (IsL.cell hc k _ (at_some C k hk) 12 _ rfl) hg
          have CLE : ∃ ca cc, cv = .slice ca C.length cc := by
            rcases E6.out.c.form with ⟨h1, h2⟩ | ⟨g, cap, _, h1, _⟩
            · exact ⟨none, 0, by rw [h1, h2]; rfl⟩
            · exact ⟨_, cap, h1⟩
          obtain ⟨ca, cc, rfl⟩ := CLE
          rw [hM.out]
          clear E5 E6 SZ0 CB VB PB MK hM wM hzM hqq
          go_wp2_with fail
          go_loopw [17] (fun u vr => ∃ (i : Nat) (B : List Bool), u = .int .i64 (i : Int) ∧ i ≤ C.length ∧ Kp [qq] zM vr ∧ Seen vr qq (flen + 1) C i B) (fun u _ => C.length - (intOf u).toNat)
          case atStart => exact ⟨0, _, rfl, Nat.zero_le _, Kp.refl _ _, SZ.out⟩
          case round =>
            clear SZ
            obtain ⟨i, B, rfl, hi, K5, S5⟩ := hrel
            by_cases hic : i < C.length
            · have gi : (i : Int) < (C.length : Int) := by omega
              obtain ⟨g, c, hcv, CX⟩ := ROWC.out i hic
              cases hcv
              obtain ⟨K, hK, hKn⟩ : ∃ K : Nat, (at_ C i).nm = (K : Int) ∧ K < n := by
                have := HO.out.rng (x := at_ C i) (by rw [List.append_nil]; exact at_mem hic)
                exact ⟨(at_ C i).nm.toNat, by omega, by omega⟩
              have c12 := (CX wr K5 i hic).2.2
              rw [hK] at c12
              have KM : K < flen + 1 := by have := HNL.out; omega
              have cs : wr.cell? ⟨qq, K, none⟩ = some (.bool false) := S5.cell KM hK (fun j hj => HO.out.ne hj hic)
              have fz : wr.frozen? ⟨qq, K, none⟩ = false := frozen_of_row wr qq K _ _ S5.blk
              have g0 : ¬ (K : Int) < 0 := by omega
              have g1 : ¬ (K : Int) ≥ (n : Int) := by omega
              have g2 : ¬ (n : Int) ≤ (K : Int) := by omega
              have gM : (K : Int) < ((flen + 1 : Nat) : Int) := by omega
              have OD : Hid (∀ k, k < i → (at_ C k).i = (at_ C i).i → (at_ C k).r = (at_ C i).r → (at_ C k).nm ≤ (K : Int)) := fun k hk e1 e2 => by rw [← hK]; exact HO.out.ord k i hk hic e1 e2
              have S6 : Hid (Seen (wr.setCell ⟨qq, K, none⟩ (.bool true)) qq (flen + 1) C (i + 1) (B.set K true)) := S5.set KM hK
              have K6 : Hid (Kp [qq] zM (wr.setCell ⟨qq, K, none⟩ (.bool true))) := K5.set _ _ (.inl (by simp))
              have CK : Hid (∀ vr, Below (wr.setCell ⟨qq, K, none⟩ (.bool true)).heap.size (wr.setCell ⟨qq, K, none⟩ (.bool true)) vr → ∀ k, k < i → vr.cell? ⟨g, k * 13 + 1, none⟩ = some (.int .u16 (at_ C k).i) ∧ vr.cell? ⟨g, k * 13 + 11, none⟩ = some (.bool (at_ C k).r) ∧ vr.cell? ⟨g, k * 13 + 12, none⟩ = some (.int .i64 (at_ C k).nm) ∧ vr.cell? ⟨g, i * 13 + 1, none⟩ = some (.int .u16 (at_ C i).i) ∧ vr.cell? ⟨g, i * 13 + 11, none⟩ = some (.bool (at_ C i).r)) := fun vr hv k hk => by
                have k7 : Kp [qq] zM vr := K6.out.trans (Kp.of hv)
                have a := CX vr k7 k (by omega)
                have b := CX vr k7 i hic
                exact ⟨a.1, a.2.1, a.2.2, b.1, b.2.1⟩
              obtain ⟨xi, hxi⟩ : ∃ xi, xi = (at_ C i).i := ⟨_, rfl⟩
              obtain ⟨xr, hxr⟩ : ∃ xr, xr = (at_ C i).r := ⟨_, rfl⟩
              rw [← hxi, ← hxr] at CK OD
              clear CX S5 K5 hxi hxr hK ROWC
              go_wp2_with fail
              obtain ⟨z6, hz6⟩ : ∃ z6, Hid (z6 = wr.setCell ⟨qq, K, none⟩ (.bool true)) := ⟨_, rfl⟩
              rw [← hz6.out] at CK S6 K6 ⊢
              clear hz6 cs fz c12
              go_loopw [19] (fun u vr => ∃ k : Nat, u = .int .i64 (k : Int) ∧ k ≤ i ∧ Below z6.heap.size z6 vr) (fun u _ => i - (intOf u).toNat)
              case atStart => exact ⟨0, rfl, Nat.zero_le _, Below.refl _ _⟩
              case round =>
                obtain ⟨k, rfl, hk, bk⟩ := hrel
                by_cases hki : k < i
                · have gk : (k : Int) < (i : Int) := by omega
                  obtain ⟨c1, c2, c3, c4, c5⟩ := CK.out wr bk k hki
                  have hord := OD.out k hki
                  have wk : IntKind.i64.wrap ((k : Int) + 1) = ((k + 1 : Nat) : Int) := by rw [IntKind.wrap_i64]; have := HCL.out; omega
                  have BK : Hid (∀ m, Below z6.heap.size z6 (wr.drewN m)) := fun m => Below.andThen bk ⟨rfl, rfl, rfl, Nat.le_refl _, fun _ _ => rfl⟩
                  have gk2 : (k : Int) < (C.length : Int) := by omega
                  have gi2 : (i : Int) < (C.length : Int) := by omega
                  obtain ⟨y, hy⟩ : ∃ y, y = at_ C k := ⟨_, rfl⟩
                  rw [← hy] at c1 c2 c3 hord
                  obtain ⟨_, yi, _, _, _, _, _, _, _, _, _, yr, ynm⟩ := y
                  dsimp only at c1 c2 c3 hord
                  clear CK OD S6 bk hy
                  by_cases e1 : yi = xi
                  · subst e1
                    have hor := hord rfl
                    clear hord
                    by_cases e2 : yr = xr
                    · subst e2
                      have hno : ¬ ynm > (K : Int) := by have := hor rfl; omega
                      have hno2 : ¬ (K : Int) < ynm := by have := hor rfl; omega
                      clear hor
                      go_wp2_with fail
                      go_quiet (fail)
                      clear c1 c2 c3 c4 c5
                      go_wp2_with fail
                      exact ⟨⟨k + 1, rfl, by omega, BK.out _⟩, by simp [intOf]; omega⟩
                    · clear hor
                      have e3 : (yr == xr) = false := by cases yr <;> cases xr <;> simp_all
                      have e4 : (yr != xr) = true := by cases yr <;> cases xr <;> simp_all
                      go_wp2_with fail
                      go_quiet (fail)
                      clear c1 c2 c3 c4 c5
                      go_wp2_with fail
                      exact ⟨⟨k + 1, rfl, by omega, BK.out _⟩, by simp [intOf]; omega⟩
                  · clear hord
                    go_wp2_with fail
                    go_quiet (fail)
                    clear c1 c2 c3 c4 c5
                    go_wp2_with fail
                    exact ⟨⟨k + 1, rfl, by omega, BK.out _⟩, by simp [intOf]; omega⟩
                · have gk : ¬ (k : Int) < (i : Int) := by omega
                  have S7 : Hid _ := S6.out.kp bk
                  have K7 : Hid (Kp [qq] zM wr) := K6.out.trans (Kp.of bk)
                  have wi : IntKind.i64.wrap ((i : Int) + 1) = ((i + 1 : Nat) : Int) := by rw [IntKind.wrap_i64]; have := HCL.out; omega
                  clear S6 K6 CK OD bk
                  go_wp2_with fail
                  first
                    | exact ⟨⟨i + 1, _, rfl, by omega, K7.out, S7.out⟩, by simp [intOf]; omega⟩
                    | exact ⟨⟨i + 1, rfl, by omega, K7.out, _, S7.out⟩, by simp [intOf]; omega⟩
                    | exact ⟨⟨i + 1, by simp, by omega, K7.out, _, S7.out⟩, by simp [intOf]; omega⟩
                    | exact ⟨⟨_, _, ⟨i + 1, rfl, by omega, K7.out, _, S7.out⟩, rfl, by simp⟩, by simp [intOf]; omega⟩
                    | (trace_state; sorry)
            · have gi : ¬ (i : Int) < (C.length : Int) := by omega
              have eC : C.length = n := HO.out.all
              have CT := count_any (BB.out wr K5)
              have WK : Hid (∀ w', w' = wr → Calls Try.prog 8 #[] w' fun e w'' => e = .returned (.bool true) ∧ Below w'.heap.size w' w'') := fun w' h => works_any w'
              have BE : Hid (Below w0.heap.size w0 wr) := Kp.below BM.out K5 BM.out.size (by intro i hi; simp at hi; rw [hi]; exact HQ.out)
              clear S5 K5 ROWC BB HO
              rw [eC]
              go_wp2_with fail
              refine CT.mono ?_
              rintro e z8 ⟨rfl, rfl⟩
              clear CT
              go_wp2_with fail
              refine (WK.out _ rfl).mono ?_
              rintro e z9 ⟨rfl, b9⟩
              have B9 : Hid _ := Below.andThen BE.out b9
              clear WK b9 BE
              go_wp2_with fail
              go_ret
              exact ⟨rfl, B9.out⟩
        have LV : Hid (lenV cv = C.length ∧ C.length < 301) := ⟨lenV_is HE.out.c, by have := HE.out.o.len; omega⟩
        have ST := run_storeVar_new (P := Try.prog) z1 42 #[.int .i64 0, .int .u16 0, .int .i64 0, .int .u8 0, .int .u8 0, .int .u8 0, .int .u8 0, .int .u8 0, .int .u8 0, .int .u8 0, .int .u8 0, .bool false, .int .i64 0] x.A size42 rfl (by simp [Value.oneCell'])
        obtain ⟨z3, hz3⟩ : ∃ z3, Hid (z3 = z1.alloc (.cells x.A 42)) := ⟨_, rfl⟩
        rw [← hz3.out] at ST
        have T3 : Hid (Tk w0 z3 w0.heap.size v' cv m C n x) := by show Tk _ _ _ _ _ _ _ _ _; rw [hz3.out]; exact T0.next (Below.al (Below.refl _ _) _)
        have SBr : z3.heap[z1.heap.size]? = some (.cells x.A 42 (0, 0)) := by rw [hz3.out]; exact heap_alloc_last z1 _
        clear T0 HE hml
        have LD := run_loadVar_row (P := Try.prog) z3 z1.heap.size 42 42 x.A (0, 0) _ SBr Try.underlying42 rfl size42
        have OWN : Hid (∀ o, IsL (z3.alloc o) (w0.heap.size + 1) cv C) := fun o => (T3.out.next (Below.al (Below.refl _ _) o)).c
        have BAS : Hid (w0.heap.size + 1 ≤ z3.heap.size) := lt_of_heap T3.out.b.head
        have AP : Hid (∀ o g c z, (z3.alloc o).grownBy z cv.ownBlock → (cv.ownBlock = some g ∨ g = (z3.alloc o).heap.size) → IsL z (w0.heap.size + 1) (.slice (some ⟨g, 0, none⟩) (C.length + 1) c) (C ++ [x]) → Ev w0 z w0.heap.size v' (.slice (some ⟨g, 0, none⟩) (C.length + 1) c) m (C ++ [x]) n) := fun o g c z hg hat hc => by
          have T4 := T3.out.next (Below.al (Below.refl _ _) o)
          exact Ev.app T4.b T4.c T4.d T4.hp T4.bel T4.hh T4.o hc hg (fun k hk => by
            simp only [Value.ownBlock] at hk
            cases hk
            exact hat.imp id (fun e => by omega))
        have CL : Hid (C.length ≤ 1000) := by show C.length ≤ 1000; have := T3.out.o.len; rw [List.length_append] at this; omega
        clear T3
        go_wp2_with (first | refine wpList_store_by rfl 42 (.tmp 14) (.tmp 88) rfl _ _ rfl rfl ST ?_ | refine wpList_load_by rfl 42 (.tmp 14) rfl _ _ rfl LD ?_ | (at_builtin; refine wpList_append_lies _ rfl _ _ 48 rfl (w0.heap.size + 1) 42 i0 _ 13 48 Try.underlying48 hi hz0 hz1 hz2 rfl (by decide) _ C.length (flat C) rfl (OWN.out _) ⟨z3.heap.size, 0, none⟩ 1 1 x.L rfl (Sn.L_len x) (fun j u hj => by rw [Addr.add_lit, Nat.zero_add, World.cell?_alloc_new, ← hj]; simp [Sn.L]) (fun u hu => by simp [Sn.L] at hu; rcases hu with rfl | rfl | rfl | rfl | rfl | rfl | rfl | rfl | rfl | rfl | rfl | rfl | rfl <;> rfl) (by decide) (by have := CL.out; unfold maxLen; omega) (by have := CL.out; omega) (by have := BAS.out; simp; omega) _ rfl ?_; intro g9 c9 z9 hown hgrow hat hlt9))
        have hc9 : IsL z9 (w0.heap.size + 1) (.slice (some ⟨g9, 0, none⟩) (C.length + 1) c9) (C ++ [x]) := by
          show z9.ownsRow (w0.heap.size + 1) 42 13 _ (C ++ [x]).length (flat (C ++ [x]))
          rw [flat_app, flat_one, List.length_append]
          exact hown
        have E9 : Hid _ := AP.out _ g9 c9 z9 hgrow hat hc9
        clear AP hown hgrow hat hlt9 hc9 OWN BAS LD
        go_wp2_with fail
        refine ⟨⟨_, v', m, C ++ [x], rfl, E9.out⟩, ?_⟩
        have := LV.out
        show 301 - (C.length + 1) < 301 - lenV cv
        omega
#print axioms busOnce_any
end Go.Proofs.Ytndlpjfofjikeaa
