/-
  The walk of JournalPlays.
-/
import Derived.Test.YtgpbmccjcjoijaaKjp
import Derived.Test.YtgpbmccjcjoijaaKju
namespace Go.Proofs.Ytgpbmccjcjoijaa
open Go.RowKit

set_option linter.unusedSimpArgs false in
set_option maxHeartbeats 16000000 in
set_option maxRecDepth 100000 in
theorem journalPlays_any {w : World} (c : Int) {a : Option Addr} {la : Nat} {l1 : List Opx} (o1 : IsOx w a la l1) (ca : Nat) (h1 : la ≤ maxLen) :
    Calls Try.prog 3 #[.int .i64 c, .slice a la ca] w fun e w' => e = .returned (.bool true) ∧ Below w.heap.size w w' := by
  have LA := large_any o1 ca h1
  have WK := works_any w
  have Ho1 : Hid (IsOx w a la l1) := o1
  clear o1
  by_cases hc2 : c < 2
  · clear LA
    go_enter Try.func3, Try.ntmps3
    go_wp2_with fail
    with_reducible refine WK.mono ?_
    rintro e Z ⟨rfl, hZ⟩
    clear WK
    go_wp2_with fail
    go_ret
    exact ⟨rfl, hZ⟩
  by_cases hc8 : c > 8
  · clear LA
    go_enter Try.func3, Try.ntmps3
    go_wp2_with fail
    with_reducible refine WK.mono ?_
    rintro e Z ⟨rfl, hZ⟩
    clear WK
    go_wp2_with fail
    go_ret
    exact ⟨rfl, hZ⟩
  obtain ⟨count, rfl⟩ := Int.eq_ofNat_of_zero_le (show 0 ≤ c by omega)
  go_enter Try.func3, Try.ntmps3
  go_wp2_with fail
  with_reducible refine LA.mono ?_
  rintro e w ⟨r1, rfl, hr1, rfl⟩
  clear LA
  cases r1 with
  | true =>
    clear hr1
    go_wp2_with fail
    with_reducible refine WK.mono ?_
    rintro e Z ⟨rfl, hZ⟩
    clear WK
    go_wp2_with fail
    go_ret
    exact ⟨rfl, hZ⟩
  | false =>
  obtain ⟨hla, hl1⟩ := hr1 rfl
  have HL1 : Hid (∀ x ∈ l1, x.bs.length ≤ 20000) := hl1
  have BG := begun_any count (by omega) w
  have n2 : 2 ≤ count := by omega
  have n8 : count ≤ 8 := by omega
  clear hr1 hl1 WK
  go_wp2_with fail
  with_reducible refine BG.mono ?_
  rintro e U ⟨⟨p, B, rfl, hp, hB, hF⟩, hb⟩
  clear BG
  have HF : Hid (IsS U p B (count + 2) (count + 2) (begS count)) := hF
  have HU : Hid (Below w.heap.size w U) := hb
  have hlt := hF.lt
  have OP := open_ok hF rfl 1 count n2 (by omega) [p, B] (by simp; omega)
  rw [show ((1 : Nat) : Int) = 1 from rfl] at OP
  clear hF hb
  go_wp2_with fail
  with_reducible refine OP.mono ?_
  rintro e V ⟨⟨q, rfl, hq, hJ⟩, hbV⟩
  clear OP
  have HJ : Hid (IsJ V [q, p, B] q p 1 (count / 2) (opn (begS count).cs 1 (count / 2))) := hJ
  have HbV : Hid (Below U.heap.size U V) := hbV
  have ql : q < V.heap.size := by obtain ⟨_, h, _⟩ := hJ; exact lt_of_heap h
  have hUV := hbV.size
  have RN := rnew_any count V
  clear hJ hbV
  go_wp2_with fail
  with_reducible refine RN.mono ?_
  rintro e X ⟨rfl, hM1, hK1⟩
  clear RN
  have HT0 : Hid (One w X p B q (V.heap.size + 1) V.heap.size count (opn (begS count).cs 1 (count / 2)) (opn (begS count).cs 1 (count / 2)).all (begS count) (2 + 70000 * 0) ∧ (opn (begS count).cs 1 (count / 2)).cut = false ∧ (begS count).of = false ∧ (begS count).ar = false) := by
    have w1 := HU.out.size
    have o1 := Go.Proofs.Ytgpbmccjcjoijaa.opened (first := 1) (count := count) (n := count + 2) (s := begS count) HF.out.oct HF.out.len (by omega) n2
    have hJ := Jat.opened HF.out HbV.out hq HJ.out n2 (by omega) (by simp) (by simp) (by simp; omega)
    refine ⟨⟨Below.andThen (Below.andThen HU.out HbV.out) hK1.bel, (HF.out.next HbV.out).next hK1.bel, ⟨by show (0 : Int) ≤ 2; decide, by show (2 : Int) ≤ _; decide, by show (0 : Int) ≤ 0; decide, by show (0 : Int) < _; decide⟩, hJ.next hK1.bel, ?_, by simp; omega, by simp; omega, Away.refl _ _ _, by omega⟩, o1.2, rfl, rfl⟩
    rw [show (opn (begS count).cs 1 (count / 2)).all = all0 from beg_blank count (count / 2) (by omega)]
    exact hM1
  clear HF HU HJ HbV hM1 hK1
  generalize (opn (begS count).cs 1 (count / 2)) = J1 at *
  generalize begS count = S0 at *
  generalize V.heap.size + 1 = D0 at *
  generalize V.heap.size = E0 at *
  go_wp2_with fail
  go_loopw [6, 8, 9] (fun vj vm vi wr => ∃ (i q d db : Nat) (j : JS) (s : FS), i ≤ la ∧ vi = .int .i64 i ∧ vj = .pointer (some ⟨q, 0, none⟩) ∧ vm = .pointer (some ⟨d, 0, none⟩) ∧ One w wr p B q d db count j j.all s (2 + 70000 * i) ∧ j.cut = false ∧ s.of = false ∧ s.ar = false) (fun _ _ vi _ => la - (intOf vi).toNat)
  case atStart => exact ⟨0, q, D0, E0, J1, S0, by omega, rfl, rfl, rfl, HT0.out⟩
  case round =>
    clear HT0 ql
    obtain ⟨i, q, d, db, j, s, hi, rfl, rfl, rfl, hT, hcut, hof, har⟩ := hrel
    have HT : Hid (One w wr p B q d db count j j.all s (2 + 70000 * i)) := hT
    clear hT
    have gi : (0 : Int) ≤ i := by omega
    by_cases hlt1 : i < la
    · have gl1 : (i : Int) < (la : Int) := by omega
      obtain ⟨b1, off1, x, ab, cb, hm1, rfl, hX⟩ := Ho1.out.gets i hlt1
      have hx : x.Ok := (Ho1.out.ok x hm1).ok (HL1.out x hm1)
      have k0 := hx.k0
      obtain ⟨p0, p1, p2, p3, r⟩ := hX wr HT.out.bel
      have HR : Hid (Row wr ab x.bs.length x.bs) := r
      have HO : Hid (0 < x.bs.length → ∀ b off, ab = some ⟨b, off, none⟩ → b < w.heap.size) := fun hp b off e => (hX w (Below.refl _ _)).2.2.2.2.old hp b off e
      clear hX r
      have bX : Below wr.heap.size wr (wr.alloc (.cells #[.int .u8 x.kind, .int .u8 x.grp, .slice ab x.bs.length cb, .int .u16 x.more] 36)) := Below.al (Below.refl _ _) _
      have hcX : (wr.alloc (.cells #[.int .u8 x.kind, .int .u8 x.grp, .slice ab x.bs.length cb, .int .u16 x.more] 36)).heap[wr.heap.size]? = some (.cells #[.int .u8 x.kind, .int .u8 x.grp, .slice ab x.bs.length cb, .int .u16 x.more] 36 (0, 0)) := heap_alloc_new wr _
      have x0 : (wr.alloc (.cells #[.int .u8 x.kind, .int .u8 x.grp, .slice ab x.bs.length cb, .int .u16 x.more] 36)).cell? ⟨wr.heap.size, 0, none⟩ = some (.int .u8 x.kind) := by rw [cell_of_row _ _ _ _ _ _ hcX]; rfl
      have x1 : (wr.alloc (.cells #[.int .u8 x.kind, .int .u8 x.grp, .slice ab x.bs.length cb, .int .u16 x.more] 36)).cell? ⟨wr.heap.size, 1, none⟩ = some (.int .u8 x.grp) := by rw [cell_of_row _ _ _ _ _ _ hcX]; rfl
      have x2 : (wr.alloc (.cells #[.int .u8 x.kind, .int .u8 x.grp, .slice ab x.bs.length cb, .int .u16 x.more] 36)).cell? ⟨wr.heap.size, 2, none⟩ = some (.slice ab x.bs.length cb) := by rw [cell_of_row _ _ _ _ _ _ hcX]; rfl
      have x3 : (wr.alloc (.cells #[.int .u8 x.kind, .int .u8 x.grp, .slice ab x.bs.length cb, .int .u16 x.more] 36)).cell? ⟨wr.heap.size, 3, none⟩ = some (.int .u16 x.more) := by rw [cell_of_row _ _ _ _ _ _ hcX]; rfl
      have HX : Hid (One w (wr.alloc (.cells #[.int .u8 x.kind, .int .u8 x.grp, .slice ab x.bs.length cb, .int .u16 x.more] 36)) p B q d db count j j.all s (2 + 70000 * i)) := HT.out.next bX
      have HRX : Hid (Row (wr.alloc (.cells #[.int .u8 x.kind, .int .u8 x.grp, .slice ab x.bs.length cb, .int .u16 x.more] 36)) ab x.bs.length x.bs) := HR.out.next bX
      have HNl : Hid (wr.heap.size < (wr.alloc (.cells #[.int .u8 x.kind, .int .u8 x.grp, .slice ab x.bs.length cb, .int .u16 x.more] 36)).heap.size) := by show _ < _; rw [World.size_alloc]; omega
      have HNn : Hid (wr.heap.size ∉ [p, B, q] ∧ wr.heap.size ≠ db) := ⟨fun hm => absurd (HT.out.lt _ hm) (Nat.lt_irrefl _), fun e => absurd (e ▸ lt_of_heap HT.out.ms.row) (Nat.lt_irrefl _)⟩
      obtain ⟨E, hE⟩ : ∃ E, Hid ((doesM count j.all x).1 = E) := ⟨_, rfl⟩
      clear bX hcX
      by_cases h3 : x.kind % 6 = 3
      · have h3' : x.kind.tmod 6 = 3 := by rw [Int.tmod_eq_emod_of_nonneg k0.1]; exact h3
        have RA0 : Hid (∀ W, Below (wr.alloc (.cells #[.int .u8 x.kind, .int .u8 x.grp, .slice ab x.bs.length cb, .int .u16 x.more] 36)).heap.size (wr.alloc (.cells #[.int .u8 x.kind, .int .u8 x.grp, .slice ab x.bs.length cb, .int .u16 x.more] 36)) W → Calls Try.prog 13 #[.pointer (some ⟨q, 0, none⟩), .int .u8 x.grp] W fun e w' => KeepPost W p B (count + 2) (count + 2) q 1 (count / 2) [q, p, B] (doesJ (count + 2) 1 (count / 2) j x s) e w') := fun W hW => restore_both (HX.out.next hW).fs _ HX.out.le (by omega) (HX.out.next hW).a (by omega) x hx h3
        have E1 : Hid ((doesJ (count + 2) 1 (count / 2) j x s).1 = E) := by
          show _ = _
          rw [← hE.out]
          rcases doesJ_res (count := count) rfl HX.out.a.op hcut hof x hx with h | ⟨_, _, _, _, _, _, h⟩
          · exact h.1
          · rw [har] at h; cases h
        have eE : (E != E) = false := by simp
        go_wp2_with fail
        clear p0 p1 p2 p3
        generalize (wr.alloc (.cells #[.int .u8 x.kind, .int .u8 x.grp, .slice ab x.bs.length cb, .int .u16 x.more] 36)) = X at *
        have RA := RA0.out X.drew ((Kp.refl [] X).drew).bel
        have nN := HNn.out.1
        have nNd : wr.heap.size ∉ [db] := by simpa using HNn.out.2
        refine wp_region_held_drew (S := fun y => y.cell? ⟨wr.heap.size, 1, none⟩ = some (.int .u8 x.grp)) (by kernel_rfl) (x1) (fun hHeld => ?_)
        refine wpAnyH_take (i := 0) (v := (.pointer (some ⟨q, 0, none⟩))) rfl (by kernel_rfl) (by kernel_rfl) (by kernel_rfl) (fun _ _ _ h => h) (Or.inl ⟨by rfl, ?_⟩) (by assumption) ?_
        · intro w9 hSw
          try dsimp only at hSw
          go_simp
          all_goals try decide
          all_goals try assumption
          all_goals try omega
        try simp only [Act.put, List.getElem_toArray, List.getElem_cons_succ, List.getElem_cons_zero, List.setIfInBounds_toArray, List.set_cons_zero, List.set_cons_succ]
        refine wpAnyH_take (i := 1) (v := (.pointer (some ⟨wr.heap.size, 1, none⟩))) rfl (by kernel_rfl) (by kernel_rfl) (by kernel_rfl) (fun _ _ _ h => h) (Or.inl ⟨by rfl, ?_⟩) (by assumption) ?_
        · intro w9 hSw
          try dsimp only at hSw
          go_simp
          all_goals try decide
          all_goals try assumption
          all_goals try omega
        try simp only [Act.put, List.getElem_toArray, List.getElem_cons_succ, List.getElem_cons_zero, List.setIfInBounds_toArray, List.set_cons_zero, List.set_cons_succ]
        refine wpAnyH_take (i := 2) (v := (.int .u8 x.grp)) rfl (by kernel_rfl) (by kernel_rfl) (by kernel_rfl) (fun _ _ _ h => h) (Or.inl ⟨by rfl, ?_⟩) (by assumption) ?_
        · intro w9 hSw
          try dsimp only at hSw
          go_simp
          all_goals try decide
          all_goals try assumption
          all_goals try omega
        try simp only [Act.put, List.getElem_toArray, List.getElem_cons_succ, List.getElem_cons_zero, List.setIfInBounds_toArray, List.set_cons_zero, List.set_cons_succ]
        refine wpAnyH_take (i := 4) (v := (.pointer (some ⟨d, 0, none⟩))) rfl (by kernel_rfl) (by kernel_rfl) (by kernel_rfl) (fun _ _ _ h => h) (Or.inl ⟨by rfl, ?_⟩) (by assumption) ?_
        · intro w9 hSw
          try dsimp only at hSw
          go_simp
          all_goals try decide
          all_goals try assumption
          all_goals try omega
        try simp only [Act.put, List.getElem_toArray, List.getElem_cons_succ, List.getElem_cons_zero, List.setIfInBounds_toArray, List.set_cons_zero, List.set_cons_succ]
        refine wpAnyH_take (i := 5) (v := (.pointer (some ⟨wr.heap.size, 1, none⟩))) rfl (by kernel_rfl) (by kernel_rfl) (by kernel_rfl) (fun _ _ _ h => h) (Or.inl ⟨by rfl, ?_⟩) (by assumption) ?_
        · intro w9 hSw
          try dsimp only at hSw
          go_simp
          all_goals try decide
          all_goals try assumption
          all_goals try omega
        try simp only [Act.put, List.getElem_toArray, List.getElem_cons_succ, List.getElem_cons_zero, List.setIfInBounds_toArray, List.set_cons_zero, List.set_cons_succ]
        refine wpAnyH_take (i := 6) (v := (.int .u8 x.grp)) rfl (by kernel_rfl) (by kernel_rfl) (by kernel_rfl) (fun _ _ _ h => h) (Or.inl ⟨by rfl, ?_⟩) (by assumption) ?_
        · intro w9 hSw
          try dsimp only at hSw
          go_simp
          all_goals try decide
          all_goals try assumption
          all_goals try omega
        try simp only [Act.put, List.getElem_toArray, List.getElem_cons_succ, List.getElem_cons_zero, List.setIfInBounds_toArray, List.set_cons_zero, List.set_cons_succ]
        refine wpAnyH_ready (rs := [3]) (by kernel_rfl) (by simp) ?_
        refine AllReadyH.cons rfl (fun K' hK => ?_) AllReadyH.nil
        rw [if_pos (by rfl)]
        simp only [List.getElem_toArray, List.getElem_cons_succ, List.getElem_cons_zero]
        go_wp2_with fail
        refine (RA).mono ?_
        rintro e1 U h1
        have KU : Kp [p, B, q] X U := ((Kp.refl _ _).drew).trans h1.2.2.2
        have RB := rrestore_both ((HX.out.ms.next ((Kp.refl [] X).drew).bel).kp h1.2.2.2 HX.out.nd.1 HX.out.nd.2) HX.out.a.op.grp x hx h3
        have HH1 : Hid (KeepPost X.drew p B (count + 2) (count + 2) q 1 (count / 2) [q, p, B] (doesJ (count + 2) 1 (count / 2) j x s) e1 U) := h1
        obtain ⟨e1eq, _⟩ := h1
        rw [E1.out] at e1eq
        subst e1eq
        try go_wp2_with fail
        refine hK.out _ _ (KU.cell x1 nN) (fun hHeld => ?_)
        clear hK K'
        try simp only [Act.put, List.getElem_toArray, List.getElem_cons_succ, List.getElem_cons_zero, List.setIfInBounds_toArray, List.set_cons_zero, List.set_cons_succ]
        refine wpAnyH_ready (rs := [7]) (by kernel_rfl) (by simp) ?_
        refine AllReadyH.cons rfl (fun K' hK => ?_) AllReadyH.nil
        rw [if_pos (by rfl)]
        simp only [List.getElem_toArray, List.getElem_cons_succ, List.getElem_cons_zero]
        go_wp2_with fail
        refine (RB).mono ?_
        rintro e2 V h2
        obtain ⟨_, e2, j2, s2, hN, hc2, ho2, ha2⟩ := One.step HX.out hcut hof har (by omega) x hx ((Kp.refl [] X).drew).bel HH1.out (Below.refl _ _) h2
        have HN : Hid (One w V p B q d db count j2 j2.all s2 (2 + 70000 * i + 70000)) := hN
        have HC : Hid (j2.cut = false ∧ s2.of = false ∧ s2.ar = false) := ⟨hc2, ho2, ha2⟩
        rw [hE.out] at e2
        subst e2
        try go_wp2_with fail
        refine hK.out _ _ ((KU.cell x1 nN |> fun h => (h2.2.2).cell h nNd)) (fun hHeld => ?_)
        clear hK K'
        try simp only [Act.put, List.getElem_toArray, List.getElem_cons_succ, List.getElem_cons_zero, List.setIfInBounds_toArray, List.set_cons_zero, List.set_cons_succ]
        refine wpAnyH_take (i := 8) (v := (.bool false)) rfl (by kernel_rfl) (by kernel_rfl) (by kernel_rfl) (fun _ _ _ h => h) (Or.inl ⟨by rfl, ?_⟩) (by assumption) ?_
        · intro w9 hSw
          try dsimp only at hSw
          go_simp
          all_goals try decide
          all_goals try assumption
          all_goals try omega
        try simp only [Act.put, List.getElem_toArray, List.getElem_cons_succ, List.getElem_cons_zero, List.setIfInBounds_toArray, List.set_cons_zero, List.set_cons_succ]
        refine wpAnyH_done (by kernel_rfl) ?_ _
        clear x0 x1 x2 x3
        have SA := same_any HN.out.a.js HN.out.ms HN.out.a.op.grp.octs
        rw [agr_refl] at SA
        go_wp2_with fail
        with_reducible refine SA.mono ?_
        rintro e V9 ⟨rfl, hV9⟩
        clear SA
        have HN9 : Hid (One w V9 p B q d db count j2 j2.all s2 (2 + 70000 * (i + 1))) := (HN.out.next hV9).more (by omega)
        clear hV9
        go_wp2_with fail
        exact ⟨⟨i + 1, q, d, db, j2, s2, by omega, by go_num, rfl, rfl, HN9.out, HC.out.1, HC.out.2.1, HC.out.2.2⟩, by simp [intOf]; omega⟩
      · have h3' : ¬ x.kind.tmod 6 = 3 := by rw [Int.tmod_eq_emod_of_nonneg k0.1]; exact h3
        by_cases h45 : x.kind % 6 = 4 ∨ x.kind % 6 = 5
        · rcases h45 with h4 | h5
          · have OP := open_ok HX.out.fs hof 1 count n2 (by omega) [p, B] (fun y hy => HX.out.lt y (by simp at hy ⊢; omega))
            rw [show ((1 : Nat) : Int) = 1 from rfl] at OP
            have h4' : x.kind.tmod 6 = 4 := by rw [Int.tmod_eq_emod_of_nonneg k0.1]; exact h4
            go_wp2_with fail
            clear p0 p1 p2 p3
            generalize (wr.alloc (.cells #[.int .u8 x.kind, .int .u8 x.grp, .slice ab x.bs.length cb, .int .u16 x.more] 36)) = X at *
            with_reducible refine OP.mono ?_
            rintro e V ⟨⟨q2, rfl, hq2, hJ2⟩, hbV⟩
            clear OP
            have HJ2 : Hid (IsJ V [q2, p, B] q2 p 1 (count / 2) (opn s.cs 1 (count / 2))) := hJ2
            have HbV : Hid (Below X.heap.size X V) := hbV
            have RO := ropened_any (HX.out.next hbV).ms
            clear hJ2 hbV x0 x1 x2 x3
            go_wp2_with fail
            with_reducible refine RO.mono ?_
            rintro e Z ⟨rfl, hM2, hK2⟩
            clear RO
            obtain ⟨hN, hcut2⟩ := HX.out.reopen n2 HbV.out hq2 HJ2.out hK2.bel hM2 (Nat.le_succ _) (Nat.le_refl _)
            have HN : Hid (One w Z p B q2 (V.heap.size + 1) V.heap.size count (opn s.cs 1 (count / 2)) (opn s.cs 1 (count / 2)).all s (2 + 70000 * i)) := hN
            have HC : Hid ((opn s.cs 1 (count / 2)).cut = false ∧ s.of = false ∧ s.ar = false) := ⟨hcut2, hof, har⟩
            clear hM2 hK2 hN hcut2
            have SA := same_any HN.out.a.js HN.out.ms HN.out.a.op.grp.octs
            rw [agr_refl] at SA
            go_wp2_with fail
            with_reducible refine SA.mono ?_
            rintro e V9 ⟨rfl, hV9⟩
            clear SA
            have HN9 : Hid (One w V9 p B q2 (V.heap.size + 1) V.heap.size count (opn s.cs 1 (count / 2)) (opn s.cs 1 (count / 2)).all s (2 + 70000 * (i + 1))) := (HN.out.next hV9).more (by omega)
            clear hV9
            go_wp2_with fail
            exact ⟨⟨i + 1, q2, (V.heap.size + 1), V.heap.size, (opn s.cs 1 (count / 2)), s, by omega, by go_num, rfl, rfl, HN9.out, HC.out.1, HC.out.2.1, HC.out.2.2⟩, by simp [intOf]; omega⟩
          · have OP := open_ok HX.out.fs hof 1 count n2 (by omega) [p, B] (fun y hy => HX.out.lt y (by simp at hy ⊢; omega))
            rw [show ((1 : Nat) : Int) = 1 from rfl] at OP
            have h4' : ¬ x.kind.tmod 6 = 4 := by rw [Int.tmod_eq_emod_of_nonneg k0.1]; omega
            have h5' : x.kind.tmod 6 = 5 := by rw [Int.tmod_eq_emod_of_nonneg k0.1]; exact h5
            go_wp2_with fail
            clear p0 p1 p2 p3
            generalize (wr.alloc (.cells #[.int .u8 x.kind, .int .u8 x.grp, .slice ab x.bs.length cb, .int .u16 x.more] 36)) = X at *
            with_reducible refine OP.mono ?_
            rintro e V ⟨⟨q2, rfl, hq2, hJ2⟩, hbV⟩
            clear OP
            have HJ2 : Hid (IsJ V [q2, p, B] q2 p 1 (count / 2) (opn s.cs 1 (count / 2))) := hJ2
            have HbV : Hid (Below X.heap.size X V) := hbV
            have RO := ropened_any (HX.out.next hbV).ms
            clear hJ2 hbV x0 x1 x2 x3
            go_wp2_with fail
            with_reducible refine RO.mono ?_
            rintro e Z ⟨rfl, hM2, hK2⟩
            clear RO
            obtain ⟨hN, hcut2⟩ := HX.out.reopen n2 HbV.out hq2 HJ2.out hK2.bel hM2 (Nat.le_succ _) (Nat.le_refl _)
            have HN : Hid (One w Z p B q2 (V.heap.size + 1) V.heap.size count (opn s.cs 1 (count / 2)) (opn s.cs 1 (count / 2)).all s (2 + 70000 * i)) := hN
            have HC : Hid ((opn s.cs 1 (count / 2)).cut = false ∧ s.of = false ∧ s.ar = false) := ⟨hcut2, hof, har⟩
            clear hM2 hK2 hN hcut2
            have SA := same_any HN.out.a.js HN.out.ms HN.out.a.op.grp.octs
            rw [agr_refl] at SA
            go_wp2_with fail
            with_reducible refine SA.mono ?_
            rintro e V9 ⟨rfl, hV9⟩
            clear SA
            have HN9 : Hid (One w V9 p B q2 (V.heap.size + 1) V.heap.size count (opn s.cs 1 (count / 2)) (opn s.cs 1 (count / 2)).all s (2 + 70000 * (i + 1))) := (HN.out.next hV9).more (by omega)
            clear hV9
            go_wp2_with fail
            exact ⟨⟨i + 1, q2, (V.heap.size + 1), V.heap.size, (opn s.cs 1 (count / 2)), s, by omega, by go_num, rfl, rfl, HN9.out, HC.out.1, HC.out.2.1, HC.out.2.2⟩, by simp [intOf]; omega⟩
        · have h4' : ¬ x.kind.tmod 6 = 4 := by rw [Int.tmod_eq_emod_of_nonneg k0.1]; omega
          have h5' : ¬ x.kind.tmod 6 = 5 := by rw [Int.tmod_eq_emod_of_nonneg k0.1]; omega
          have BY := opbytes_any x hx ab x.bs.length cb HRX.out
          have E1 : Hid ((doesJ (count + 2) 1 (count / 2) j x s).1 = E) := by
            show _ = _
            rw [← hE.out]
            rcases doesJ_res (count := count) rfl HX.out.a.op hcut hof x hx with h | ⟨_, _, _, _, _, _, h⟩
            · exact h.1
            · rw [har] at h; cases h
          have eE : (E != E) = false := by simp
          have s1 : ((strOfNums x.all).toList == (strOfNums x.all).toList) = true := by simp
          have s2 : ((strOfNums x.all).toList != (strOfNums x.all).toList) = false := by simp
          go_wp2_with fail
          clear p0 p1 p2 p3
          generalize (wr.alloc (.cells #[.int .u8 x.kind, .int .u8 x.grp, .slice ab x.bs.length cb, .int .u16 x.more] 36)) = X at *
          with_reducible refine BY.mono ?_
          rintro e Y ⟨⟨a1, c1, rfl, hT1⟩, hbY⟩
          clear BY
          have HbY : Hid (Below X.heap.size X Y) := hbY
          have KY : Kp [] X Y := Kp.of hbY
          have x0 := KY.cell x0 (by simp)
          have x1 := KY.cell x1 (by simp)
          have x2 := KY.cell x2 (by simp)
          have x3 := KY.cell x3 (by simp)
          have HNlY : Hid (wr.heap.size < Y.heap.size) := Nat.lt_of_lt_of_le HNl.out hbY.size
          have HrY : Hid (0 < x.all.length → ∀ b off, a1 = some ⟨b, off, none⟩ → b ∉ [p, B, q] ∧ b ∉ [q, p, B]) := fun hp b off e => by
            obtain ⟨g9, e9, h2, _⟩ := hT1.own hp
            rw [e9] at e
            cases e
            exact ⟨fun hm => absurd (HX.out.lt _ hm) (by omega), fun hm => absurd (HX.out.a.lt _ hm) (by omega)⟩
          have HRb0 : Hid (Row Y a1 x.all.length x.all) := hT1.row
          have HRY : Hid (Row Y ab x.bs.length x.bs) := HRX.out.next hbY
          have ST := store_both (HX.out.next hbY).fs _ HX.out.le (by omega) (HX.out.next hbY).a (by omega) (by omega) x hx h3 a1 c1 hT1.row (fun hp b off e => (HrY.out hp b off e).2)
          clear hT1 hbY KY
          go_wp2_with fail
          with_reducible refine ST.mono ?_
          rintro e1 U h1
          clear ST
          have HH1 : Hid (KeepPost Y p B (count + 2) (count + 2) q 1 (count / 2) [q, p, B] (doesJ (count + 2) 1 (count / 2) j x s) e1 U) := h1
          have KU := h1.2.2.2
          have HMU : Hid (IsM U d db count j.all) := (HX.out.next HbY.out).ms.kp KU HX.out.nd.1 HX.out.nd.2
          have HRb : Hid (Row U a1 x.all.length x.all) := HRb0.out.kp' KU (fun hp b off e => (HrY.out hp b off e).1)
          have HRU : Hid (Row U ab x.bs.length x.bs) := HRY.out.kp' KU (fun hp b off e hm => absurd (HT.out.new _ hm) (by have := HO.out hp b off e; omega))
          have x0 := KU.cell x0 HNn.out.1
          have x1 := KU.cell x1 HNn.out.1
          have x2 := KU.cell x2 HNn.out.1
          have x3 := KU.cell x3 HNn.out.1
          obtain ⟨e1eq, _⟩ := h1
          rw [E1.out] at e1eq
          subst e1eq
          have nNd : wr.heap.size ∉ [db] := by simpa using HNn.out.2
          have BY2 := opbytes_any x hx ab x.bs.length cb (HRU.out.drew)
          clear KU
          go_wp2_with fail
          refine wp_region_held_drew (S := fun y => (y.cell? ⟨wr.heap.size, 0, none⟩ = some (.int .u8 x.kind) ∧ y.cell? ⟨wr.heap.size, 1, none⟩ = some (.int .u8 x.grp) ∧ y.cell? ⟨wr.heap.size, 2, none⟩ = some (.slice ab x.bs.length cb) ∧ y.cell? ⟨wr.heap.size, 3, none⟩ = some (.int .u16 x.more)) ∧ Row y a1 x.all.length x.all) (by kernel_rfl) (⟨⟨x0, x1, x2, x3⟩, HRb.out.drew⟩) (fun hHeld => ?_)
          refine wpAnyH_take (i := 0) (v := (.int .i64 E)) rfl (by kernel_rfl) (by kernel_rfl) (by kernel_rfl) (fun _ _ _ h => h) (Or.inl ⟨by rfl, ?_⟩) (by assumption) ?_
          · intro w9 hSw
            try dsimp only at hSw
            go_simp
            all_goals try decide
            all_goals try assumption
            all_goals try omega
          try simp only [Act.put, List.getElem_toArray, List.getElem_cons_succ, List.getElem_cons_zero, List.setIfInBounds_toArray, List.set_cons_zero, List.set_cons_succ]
          refine wpAnyH_take (i := 1) (v := (.pointer (some ⟨d, 0, none⟩))) rfl (by kernel_rfl) (by kernel_rfl) (by kernel_rfl) (fun _ _ _ h => h) (Or.inl ⟨by rfl, ?_⟩) (by assumption) ?_
          · intro w9 hSw
            try dsimp only at hSw
            go_simp
            all_goals try decide
            all_goals try assumption
            all_goals try omega
          try simp only [Act.put, List.getElem_toArray, List.getElem_cons_succ, List.getElem_cons_zero, List.setIfInBounds_toArray, List.set_cons_zero, List.set_cons_succ]
          refine wpAnyH_take (i := 2) (v := (.pointer (some ⟨wr.heap.size, 1, none⟩))) rfl (by kernel_rfl) (by kernel_rfl) (by kernel_rfl) (fun _ _ _ h => h) (Or.inl ⟨by rfl, ?_⟩) (by assumption) ?_
          · intro w9 hSw
            try dsimp only at hSw
            go_simp
            all_goals try decide
            all_goals try assumption
            all_goals try omega
          try simp only [Act.put, List.getElem_toArray, List.getElem_cons_succ, List.getElem_cons_zero, List.setIfInBounds_toArray, List.set_cons_zero, List.set_cons_succ]
          refine wpAnyH_take (i := 3) (v := (.int .u8 x.grp)) rfl (by kernel_rfl) (by kernel_rfl) (by kernel_rfl) (fun _ _ _ h => h) (Or.inl ⟨by rfl, ?_⟩) (by assumption) ?_
          · intro w9 hSw
            try dsimp only at hSw
            obtain ⟨⟨hS0, hS1, hS2, hS3⟩, _⟩ := hSw
            go_simp
          try simp only [Act.put, List.getElem_toArray, List.getElem_cons_succ, List.getElem_cons_zero, List.setIfInBounds_toArray, List.set_cons_zero, List.set_cons_succ]
          refine wpAnyH_take (i := 4) (v := (.agg #[.int .u8 x.kind, .int .u8 x.grp, .slice ab x.bs.length cb, .int .u16 x.more])) rfl (by kernel_rfl) (by kernel_rfl) (by kernel_rfl) (fun _ _ _ h => h) (Or.inl ⟨by rfl, ?_⟩) (by assumption) ?_
          · intro w9 hSw
            try dsimp only at hSw
            obtain ⟨⟨hS0, hS1, hS2, hS3⟩, _⟩ := hSw
            go_simp
          try simp only [Act.put, List.getElem_toArray, List.getElem_cons_succ, List.getElem_cons_zero, List.setIfInBounds_toArray, List.set_cons_zero, List.set_cons_succ]
          refine wpAnyH_ready (rs := [5]) (by kernel_rfl) (by simp) ?_
          refine AllReadyH.cons rfl (fun K' hK => ?_) AllReadyH.nil
          rw [if_pos (by rfl)]
          simp only [List.getElem_toArray, List.getElem_cons_succ, List.getElem_cons_zero]
          go_wp2_with fail
          refine (BY2).mono ?_
          rintro e U2 ⟨⟨a2, c2, rfl, hT2⟩, hb2⟩
          have KU2 : Kp [] U U2 := ((Kp.refl _ _).drew).trans (Kp.of hb2)
          have RS := rstore_both (HMU.out.next KU2.bel) HX.out.a.op.grp (by omega) n2 x hx h3 a2 c2 hT2.row
          clear hT2 BY2
          try go_wp2_with fail
          refine hK.out _ _ (⟨⟨KU2.cell x0 (by simp), KU2.cell x1 (by simp), KU2.cell x2 (by simp), KU2.cell x3 (by simp)⟩, HRb.out.kp' KU2 (by simp)⟩) (fun hHeld => ?_)
          clear hK K'
          try simp only [Act.put, List.getElem_toArray, List.getElem_cons_succ, List.getElem_cons_zero, List.setIfInBounds_toArray, List.set_cons_zero, List.set_cons_succ]
          refine wpAnyH_ready (rs := [6]) (by kernel_rfl) (by simp) ?_
          refine AllReadyH.cons rfl (fun K' hK => ?_) AllReadyH.nil
          rw [if_pos (by rfl)]
          simp only [List.getElem_toArray, List.getElem_cons_succ, List.getElem_cons_zero]
          go_wp2_with fail
          refine (RS).mono ?_
          rintro e2 V h2
          have KV : Kp [db] U V := (KU2.more (by simp)).trans h2.2.2
          obtain ⟨_, e2, j2, s2, hN, hc2, ho2, ha2⟩ := One.step HX.out hcut hof har (by omega) x hx HbY.out HH1.out KU2.bel h2
          have HN : Hid (One w V p B q d db count j2 j2.all s2 (2 + 70000 * i + 70000)) := hN
          have HC : Hid (j2.cut = false ∧ s2.of = false ∧ s2.ar = false) := ⟨hc2, ho2, ha2⟩
          have HRV : Hid (Row V ab x.bs.length x.bs) := ((HRU.out.kp' KU2 (by simp)).kpM (HMU.out.next KU2.bel) h2.2.2)
          have HbV9 : Hid (Row V a1 x.all.length x.all) := ((HRb.out.kp' KU2 (by simp)).kpM (HMU.out.next KU2.bel) h2.2.2)
          rw [hE.out] at e2
          subst e2
          clear hN hc2 ho2 ha2 RS
          try go_wp2_with fail
          refine hK.out _ _ (⟨⟨KV.cell x0 nNd, KV.cell x1 nNd, KV.cell x2 nNd, KV.cell x3 nNd⟩, (HRb.out.kp' KU2 (by simp)).kpM (HMU.out.next KU2.bel) h2.2.2⟩) (fun hHeld => ?_)
          clear hK K'
          try simp only [Act.put, List.getElem_toArray, List.getElem_cons_succ, List.getElem_cons_zero, List.setIfInBounds_toArray, List.set_cons_zero, List.set_cons_succ]
          refine wpAnyH_take (i := 7) (v := (.bool false)) rfl (by kernel_rfl) (by kernel_rfl) (by kernel_rfl) (fun _ _ _ h => h) (Or.inl ⟨by rfl, ?_⟩) (by assumption) ?_
          · intro w9 hSw
            try dsimp only at hSw
            go_simp
            all_goals try decide
            all_goals try assumption
            all_goals try omega
          try simp only [Act.put, List.getElem_toArray, List.getElem_cons_succ, List.getElem_cons_zero, List.setIfInBounds_toArray, List.set_cons_zero, List.set_cons_succ]
          refine wpAnyH_take (i := 8) (v := (.bool false)) rfl (by kernel_rfl) (by kernel_rfl) (by kernel_rfl) (fun _ _ _ h => h) (Or.inl ⟨by rfl, ?_⟩) (by assumption) ?_
          · intro w9 hSw
            try dsimp only at hSw
            go_simp
            all_goals try decide
            all_goals try assumption
            all_goals try omega
          try simp only [Act.put, List.getElem_toArray, List.getElem_cons_succ, List.getElem_cons_zero, List.setIfInBounds_toArray, List.set_cons_zero, List.set_cons_succ]
          refine wpAnyH_take (i := 9) (v := (.slice a1 x.all.length c1)) rfl (by kernel_rfl) (by kernel_rfl) (by kernel_rfl) (fun _ _ _ h => h) (Or.inl ⟨by rfl, ?_⟩) (by assumption) ?_
          · intro w9 hSw
            try dsimp only at hSw
            go_simp
            all_goals try decide
            all_goals try assumption
            all_goals try omega
          try simp only [Act.put, List.getElem_toArray, List.getElem_cons_succ, List.getElem_cons_zero, List.setIfInBounds_toArray, List.set_cons_zero, List.set_cons_succ]
          refine wpAnyH_take (i := 10) (v := (.string (strOfNums x.all))) rfl (by kernel_rfl) (by kernel_rfl) (by kernel_rfl) (fun _ _ _ h => h) (Or.inl ⟨by rfl, ?_⟩) (by assumption) ?_
          · intro w9 hSw
            try dsimp only at hSw
            obtain ⟨_, hS4⟩ := hSw
            have hcv := hS4.str c1
            go_simp
          try simp only [Act.put, List.getElem_toArray, List.getElem_cons_succ, List.getElem_cons_zero, List.setIfInBounds_toArray, List.set_cons_zero, List.set_cons_succ]
          refine wpAnyH_take (i := 11) (v := (.agg #[.int .u8 x.kind, .int .u8 x.grp, .slice ab x.bs.length cb, .int .u16 x.more])) rfl (by kernel_rfl) (by kernel_rfl) (by kernel_rfl) (fun _ _ _ h => h) (Or.inl ⟨by rfl, ?_⟩) (by assumption) ?_
          · intro w9 hSw
            try dsimp only at hSw
            obtain ⟨⟨hS0, hS1, hS2, hS3⟩, _⟩ := hSw
            go_simp
          try simp only [Act.put, List.getElem_toArray, List.getElem_cons_succ, List.getElem_cons_zero, List.setIfInBounds_toArray, List.set_cons_zero, List.set_cons_succ]
          refine wpAnyH_ready (rs := [12]) (by kernel_rfl) (by simp) ?_
          refine AllReadyH.cons rfl (fun K' hK => ?_) AllReadyH.nil
          rw [if_pos (by rfl)]
          simp only [List.getElem_toArray, List.getElem_cons_succ, List.getElem_cons_zero]
          go_wp2_with fail
          refine ((opbytes_any x hx ab x.bs.length cb HRV.out)).mono ?_
          rintro e U3 ⟨⟨a3, c3, rfl, hT3⟩, hb3⟩
          try go_wp2_with fail
          refine hK.out _ _ (⟨⟨(Kp.of hb3 : Kp [] V U3).cell (KV.cell x0 nNd) (by simp), (Kp.of hb3 : Kp [] V U3).cell (KV.cell x1 nNd) (by simp), (Kp.of hb3 : Kp [] V U3).cell (KV.cell x2 nNd) (by simp), (Kp.of hb3 : Kp [] V U3).cell (KV.cell x3 nNd) (by simp)⟩, (HbV9.out.next hb3)⟩) (fun hHeld => ?_)
          clear hK K'
          try simp only [Act.put, List.getElem_toArray, List.getElem_cons_succ, List.getElem_cons_zero, List.setIfInBounds_toArray, List.set_cons_zero, List.set_cons_succ]
          refine wpAnyH_ready (rs := [13]) (by kernel_rfl) (by simp) ?_
          refine AllReadyH.cons rfl (fun K' hK => ?_) AllReadyH.nil
          rw [if_pos (by rfl)]
          simp only [List.getElem_toArray, List.getElem_cons_succ, List.getElem_cons_zero]
          have hcv3 := hT3.row.str c3
          go_wp2_with fail
          refine hK.out _ _ (⟨⟨(Kp.of hb3 : Kp [] V U3).cell (KV.cell x0 nNd) (by simp), (Kp.of hb3 : Kp [] V U3).cell (KV.cell x1 nNd) (by simp), (Kp.of hb3 : Kp [] V U3).cell (KV.cell x2 nNd) (by simp), (Kp.of hb3 : Kp [] V U3).cell (KV.cell x3 nNd) (by simp)⟩, HbV9.out.next hb3⟩) (fun hHeld => ?_)
          clear hK K'
          try simp only [Act.put, List.getElem_toArray, List.getElem_cons_succ, List.getElem_cons_zero, List.setIfInBounds_toArray, List.set_cons_zero, List.set_cons_succ]
          refine wpAnyH_take (i := 14) (v := (.bool false)) rfl (by kernel_rfl) (by kernel_rfl) (by kernel_rfl) (fun _ _ _ h => h) (Or.inl ⟨by rfl, ?_⟩) (by assumption) ?_
          · intro w9 hSw
            try dsimp only at hSw
            go_simp
            all_goals try decide
            all_goals try assumption
            all_goals try omega
          try simp only [Act.put, List.getElem_toArray, List.getElem_cons_succ, List.getElem_cons_zero, List.setIfInBounds_toArray, List.set_cons_zero, List.set_cons_succ]
          refine wpAnyH_take (i := 15) (v := (.bool false)) rfl (by kernel_rfl) (by kernel_rfl) (by kernel_rfl) (fun _ _ _ h => h) (Or.inl ⟨by rfl, ?_⟩) (by assumption) ?_
          · intro w9 hSw
            try dsimp only at hSw
            go_simp
            all_goals try decide
            all_goals try assumption
            all_goals try omega
          try simp only [Act.put, List.getElem_toArray, List.getElem_cons_succ, List.getElem_cons_zero, List.setIfInBounds_toArray, List.set_cons_zero, List.set_cons_succ]
          refine wpAnyH_done (by kernel_rfl) ?_ _
          clear x0 x1 x2 x3
          have HN2 : Hid (One w U3 p B q d db count j2 j2.all s2 (2 + 70000 * i + 70000)) := HN.out.next hb3
          clear HN hb3 KV KU2
          have SA := same_any HN2.out.a.js HN2.out.ms HN2.out.a.op.grp.octs
          rw [agr_refl] at SA
          go_wp2_with fail
          with_reducible refine SA.mono ?_
          rintro e V9 ⟨rfl, hV9⟩
          clear SA
          have HN9 : Hid (One w V9 p B q d db count j2 j2.all s2 (2 + 70000 * (i + 1))) := (HN2.out.next hV9).more (by omega)
          clear hV9
          go_wp2_with fail
          exact ⟨⟨i + 1, q, d, db, j2, s2, by omega, by go_num, rfl, rfl, HN9.out, HC.out.1, HC.out.2.1, HC.out.2.2⟩, by simp [intOf]; omega⟩
    · have gl1 : ¬ (i : Int) < (la : Int) := by omega
      have SA := same_any HT.out.a.js HT.out.ms HT.out.a.op.grp.octs
      rw [agr_refl] at SA
      go_wp2_with fail
      with_reducible refine SA.mono ?_
      rintro e V ⟨rfl, hV⟩
      clear SA
      have hV1 := HT.out.next hV
      obtain ⟨hA, hB⟩ := away_ab (by omega) HT.out.away
      have AP := apart_any hV1.fs hof n8 hA hB
      have HV1 : Hid (Below w.heap.size w V) := hV1.bel
      clear hV hV1 hA hB
      go_wp2_with fail
      with_reducible refine AP.mono ?_
      rintro e V2 ⟨rfl, hV2⟩
      clear AP
      have HV2 : Hid (Below w.heap.size w V2) := Below.andThen HV1.out hV2
      have WK := works_any V2
      clear hV2
      go_wp2_with fail
      with_reducible refine WK.mono ?_
      rintro e V3 ⟨rfl, hV3⟩
      clear WK
      have HV3 : Hid (Below w.heap.size w V3) := Below.andThen HV2.out hV3
      clear hV3
      go_wp2_with fail
      go_ret
      exact ⟨rfl, HV3.out⟩
#print axioms journalPlays_any
end Go.Proofs.Ytgpbmccjcjoijaa
