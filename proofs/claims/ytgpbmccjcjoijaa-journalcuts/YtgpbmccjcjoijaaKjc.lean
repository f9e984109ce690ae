/-
  The walk of JournalCuts.
-/
import Derived.Test.YtgpbmccjcjoijaaKjp
import Derived.Test.YtgpbmccjcjoijaaKju
namespace Go.Proofs.Ytgpbmccjcjoijaa
open Go.RowKit

theorem FS.Le.cut {s : FS} {m : Nat} (h : s.Le m) (a : Int) (ha : a < 9223372036854775808) : (⟨s.cs, s.st, decide (0 ≤ a), max a 0, s.of⟩ : FS).Le m := ⟨h.st0, h.st1, by show 0 ≤ max a 0; omega, by show max a 0 < _; omega⟩

set_option linter.unusedSimpArgs false in
set_option maxHeartbeats 16000000 in
set_option maxRecDepth 100000 in
theorem journalCuts_any {w : World} (c : Int) {a : Option Addr} {la : Nat} {l1 : List Opx} (o1 : IsOx w a la l1) (ca : Nat) (h1 : la ≤ maxLen) (fi : Int) (hfi : 0 ≤ fi ∧ fi < 65536) :
    Calls Try.prog 4 #[.int .i64 c, .slice a la ca, .int .u16 fi] w fun e w' => e = .returned (.bool true) ∧ Below w.heap.size w w' := by
  have LA := large_any o1 ca h1
  have WK := works_any w
  have Ho1 : Hid (IsOx w a la l1) := o1
  clear o1
  by_cases hc2 : c < 2
  · clear LA
    go_enter Try.func4, Try.ntmps4
    go_wp2_with fail
    with_reducible refine WK.mono ?_
    rintro e Z ⟨rfl, hZ⟩
    clear WK
    go_wp2_with fail
    go_ret
    exact ⟨rfl, hZ⟩
  by_cases hc8 : c > 8
  · clear LA
    go_enter Try.func4, Try.ntmps4
    go_wp2_with fail
    with_reducible refine WK.mono ?_
    rintro e Z ⟨rfl, hZ⟩
    clear WK
    go_wp2_with fail
    go_ret
    exact ⟨rfl, hZ⟩
  obtain ⟨count, rfl⟩ := Int.eq_ofNat_of_zero_le (show 0 ≤ c by omega)
  go_enter Try.func4, Try.ntmps4
  go_wp2_with fail
  with_reducible refine LA.mono ?_
  rintro e w ⟨r1, rfl, hr1, rfl⟩
  clear LA
  cases r1 with
  | true =>
    clear hr1
    go_wp2_with fail
    with_reducible refine WK.mono ?_
    rintro e Z ⟨rfl, hZ⟩
    clear WK
    go_wp2_with fail
    go_ret
    exact ⟨rfl, hZ⟩
  | false =>
  obtain ⟨hla, hl1⟩ := hr1 rfl
  have HL1 : Hid (∀ x ∈ l1, x.bs.length ≤ 20000) := hl1
  have BG := begun_any count (by omega) w
  have n2 : 2 ≤ count := by omega
  have n8 : count ≤ 8 := by omega
  clear hr1 hl1 WK
  go_wp2_with fail
  with_reducible refine BG.mono ?_
  rintro e U0 ⟨⟨p, B, rfl, hp, hB, hF⟩, hb⟩
  clear BG
  have HF0 : Hid (IsS U0 p B (count + 2) (count + 2) (begS count)) := hF
  have HU0 : Hid (Below w.heap.size w U0) := hb
  obtain ⟨A, hA⟩ : ∃ A : Int, Hid (fi.tmod 50 = A ∧ 0 ≤ A ∧ A < 50) := ⟨_, rfl, by rw [Int.tmod_eq_emod_of_nonneg hfi.1]; omega, by rw [Int.tmod_eq_emod_of_nonneg hfi.1]; omega⟩
  have a0 := hA.out.2.1
  have a1 := hA.out.2.2
  have aE := hA.out.1
  have aW : IntKind.i64.wrap A = A := wrap64 _ (by omega) (by omega)
  have CU := cut_any hF A
  clear hF hb
  go_wp2_with fail
  with_reducible refine CU.mono ?_
  rintro e U ⟨rfl, hF, hKU⟩
  clear CU aE aW
  have HF : Hid (IsS U p B (count + 2) (count + 2) ⟨(begS count).cs, (begS count).st, decide (0 ≤ A), max A 0, (begS count).of⟩) := hF
  have HU : Hid (Below w.heap.size w U) := hKU.below HU0.out HU0.out.size (fun x hx => by simp at hx; omega)
  have hlt := hF.lt
  obtain ⟨S0, hS0⟩ : ∃ S0 : FS, Hid ((⟨(begS count).cs, (begS count).st, decide (0 ≤ A), max A 0, (begS count).of⟩ : FS) = S0) := ⟨_, rfl⟩
  rw [hS0.out] at HF
  have hS0cs : Hid (S0.cs = begC count) := by rw [← hS0.out]; rfl
  have hS0of : S0.of = false := by rw [← hS0.out]; rfl
  have hS0le : Hid (S0.Le 2) := by
    rw [← hS0.out]
    exact FS.Le.cut (s := begS count) (m := 2) ⟨by show (0 : Int) ≤ 2; decide, by show (2 : Int) ≤ _; decide, by show (0 : Int) ≤ 0; decide, by show (0 : Int) < _; decide⟩ A (by omega)
  have OP := open_ok HF.out hS0of 1 count n2 (by omega) [p, B] (by simp; omega)
  rw [show ((1 : Nat) : Int) = 1 from rfl] at OP
  clear hF hKU HU0 HF0
  go_wp2_with fail
  with_reducible refine OP.mono ?_
  rintro e V ⟨⟨q, rfl, hq, hJ⟩, hbV⟩
  clear OP
  have HJ : Hid (IsJ V [q, p, B] q p 1 (count / 2) (opn S0.cs 1 (count / 2))) := hJ
  have HbV : Hid (Below U.heap.size U V) := hbV
  have ql : q < V.heap.size := by obtain ⟨_, h, _⟩ := hJ; exact lt_of_heap h
  have hUV := hbV.size
  have RN := rnew_any count V
  clear hJ hbV
  go_wp2_with fail
  with_reducible refine RN.mono ?_
  rintro e X ⟨rfl, hM1, hK1⟩
  clear RN
  have HT0 : Hid (One w X p B q (V.heap.size + 1) V.heap.size count (opn S0.cs 1 (count / 2)) (opn S0.cs 1 (count / 2)).all S0 (2 + 70000 * 0) ∧ (opn S0.cs 1 (count / 2)).cut = false ∧ S0.of = false) := by
    have w1 := HU.out.size
    have o1 := Go.Proofs.Ytgpbmccjcjoijaa.opened (first := 1) (count := count) (n := count + 2) (s := S0) HF.out.oct HF.out.len (by omega) n2
    have hJ := Jat.opened HF.out HbV.out hq HJ.out n2 (by omega) (by simp) (by simp) (by simp; omega)
    refine ⟨⟨Below.andThen (Below.andThen HU.out HbV.out) hK1.bel, (HF.out.next HbV.out).next hK1.bel, hS0le.out, hJ.next hK1.bel, ?_, by simp; omega, by simp; omega, by rw [hS0cs.out]; exact Away.refl _ _ _, by omega⟩, o1.2, hS0of⟩
    rw [hS0cs.out, show (opn (begC count) 1 (count / 2)).all = all0 from beg_blank count (count / 2) (by omega)]
    exact hM1
  clear HF HU HJ HbV hM1 hK1 hS0cs hS0le hS0of hS0 a0 a1 hA
  generalize (opn S0.cs 1 (count / 2)) = J1 at *
  generalize V.heap.size + 1 = D0 at *
  generalize V.heap.size = E0 at *
  go_wp2_with fail
  go_loopw [8, 9, 10, 11] (fun vj ve vm vi wr => ∃ (i q d db : Nat) (j : JS) (s : FS), i ≤ la ∧ vi = .int .i64 i ∧ vj = .pointer (some ⟨q, 0, none⟩) ∧ ve = .int .i64 0 ∧ vm = .pointer (some ⟨d, 0, none⟩) ∧ One w wr p B q d db count j j.all s (2 + 70000 * i) ∧ j.cut = false ∧ s.of = false) (fun _ _ _ vi _ => la - (intOf vi).toNat)
  case atStart => exact ⟨0, q, D0, E0, J1, S0, by omega, rfl, rfl, rfl, rfl, HT0.out⟩
  case round =>
    clear HT0 ql
    obtain ⟨i, q, d, db, j, s, hi, rfl, rfl, rfl, rfl, hT, hcut, hof⟩ := hrel
    have HT : Hid (One w wr p B q d db count j j.all s (2 + 70000 * i)) := hT
    have OF := off_any hT.fs
    rw [hof] at OF
    clear hT
    have gi : (0 : Int) ≤ i := by omega
    by_cases hlt1 : i < la
    · have gl1 : (i : Int) < (la : Int) := by omega
      obtain ⟨b1, off1, x, ab, cb, hm1, rfl, hX⟩ := Ho1.out.gets i hlt1
      have hx : x.Ok := (Ho1.out.ok x hm1).ok (HL1.out x hm1)
      have k0 := hx.k0
      have m0 := hx.m0
      obtain ⟨p0, p1, p2, p3, r⟩ := hX wr HT.out.bel
      have HR : Hid (Row wr ab x.bs.length x.bs) := r
      clear hX r
      have bX : Below wr.heap.size wr (wr.alloc (.cells #[.int .u8 x.kind, .int .u8 x.grp, .slice ab x.bs.length cb, .int .u16 x.more] 36)) := Below.al (Below.refl _ _) _
      have hcX : (wr.alloc (.cells #[.int .u8 x.kind, .int .u8 x.grp, .slice ab x.bs.length cb, .int .u16 x.more] 36)).heap[wr.heap.size]? = some (.cells #[.int .u8 x.kind, .int .u8 x.grp, .slice ab x.bs.length cb, .int .u16 x.more] 36 (0, 0)) := heap_alloc_new wr _
      have x0 : (wr.alloc (.cells #[.int .u8 x.kind, .int .u8 x.grp, .slice ab x.bs.length cb, .int .u16 x.more] 36)).cell? ⟨wr.heap.size, 0, none⟩ = some (.int .u8 x.kind) := by rw [cell_of_row _ _ _ _ _ _ hcX]; rfl
      have x1 : (wr.alloc (.cells #[.int .u8 x.kind, .int .u8 x.grp, .slice ab x.bs.length cb, .int .u16 x.more] 36)).cell? ⟨wr.heap.size, 1, none⟩ = some (.int .u8 x.grp) := by rw [cell_of_row _ _ _ _ _ _ hcX]; rfl
      have x2 : (wr.alloc (.cells #[.int .u8 x.kind, .int .u8 x.grp, .slice ab x.bs.length cb, .int .u16 x.more] 36)).cell? ⟨wr.heap.size, 2, none⟩ = some (.slice ab x.bs.length cb) := by rw [cell_of_row _ _ _ _ _ _ hcX]; rfl
      have x3 : (wr.alloc (.cells #[.int .u8 x.kind, .int .u8 x.grp, .slice ab x.bs.length cb, .int .u16 x.more] 36)).cell? ⟨wr.heap.size, 3, none⟩ = some (.int .u16 x.more) := by rw [cell_of_row _ _ _ _ _ _ hcX]; rfl
      have HX : Hid (One w (wr.alloc (.cells #[.int .u8 x.kind, .int .u8 x.grp, .slice ab x.bs.length cb, .int .u16 x.more] 36)) p B q d db count j j.all s (2 + 70000 * i)) := HT.out.next bX
      have HRX : Hid (Row (wr.alloc (.cells #[.int .u8 x.kind, .int .u8 x.grp, .slice ab x.bs.length cb, .int .u16 x.more] 36)) ab x.bs.length x.bs) := HR.out.next bX
      clear bX hcX
      by_cases h5 : x.kind % 6 = 5
      · have h5' : x.kind.tmod 6 = 5 := by rw [Int.tmod_eq_emod_of_nonneg k0.1]; exact h5
        obtain ⟨A, hA⟩ : ∃ A : Int, Hid (x.more.tmod 3000 = A ∧ 0 ≤ A ∧ A < 3000) := ⟨_, rfl, by rw [Int.tmod_eq_emod_of_nonneg m0.1]; omega, by rw [Int.tmod_eq_emod_of_nonneg m0.1]; omega⟩
        have a0 := hA.out.2.1
        have a1 := hA.out.2.2
        have aE := hA.out.1
        have aW : IntKind.i64.wrap A = A := wrap64 _ (by omega) (by omega)
        have CU := cut_any HX.out.fs A
        go_wp2_with fail
        with_reducible refine OF.mono ?_
        rintro e wr ⟨rfl, rfl⟩
        clear OF
        go_wp2_with fail
        clear p0 p1 p2 p3
        generalize (wr.alloc (.cells #[.int .u8 x.kind, .int .u8 x.grp, .slice ab x.bs.length cb, .int .u16 x.more] 36)) = X at *
        with_reducible refine CU.mono ?_
        rintro e U ⟨rfl, hF, hKU⟩
        clear CU
        have HN : Hid (One w U p B q d db count j j.all ⟨s.cs, s.st, decide (0 ≤ A), max A 0, s.of⟩ (2 + 70000 * (i + 1))) := (HX.out.flash (s' := ⟨s.cs, s.st, decide (0 ≤ A), max A 0, s.of⟩) rfl (HX.out.le.cut A (by omega)) hF hKU).more (by omega)
        clear hF hKU aE aW x0 x1 x2 x3
        go_wp2_with fail
        exact ⟨⟨i + 1, q, d, db, j, _, by omega, by go_num, rfl, rfl, rfl, HN.out, hcut, hof⟩, by simp [intOf]; omega⟩
      by_cases h4 : x.kind % 6 = 4
      · have h5' : ¬ x.kind.tmod 6 = 5 := by rw [Int.tmod_eq_emod_of_nonneg k0.1]; exact h5
        have h4' : x.kind.tmod 6 = 4 := by rw [Int.tmod_eq_emod_of_nonneg k0.1]; exact h4
        have OP := open_ok HX.out.fs hof 1 count n2 (by omega) [p, B] (fun y hy => HX.out.lt y (by simp at hy ⊢; omega))
        rw [show ((1 : Nat) : Int) = 1 from rfl] at OP
        go_wp2_with fail
        with_reducible refine OF.mono ?_
        rintro e wr ⟨rfl, rfl⟩
        clear OF
        go_wp2_with fail
        clear p0 p1 p2 p3
        generalize (wr.alloc (.cells #[.int .u8 x.kind, .int .u8 x.grp, .slice ab x.bs.length cb, .int .u16 x.more] 36)) = X at *
        with_reducible refine OP.mono ?_
        rintro e V ⟨⟨q2, rfl, hq2, hJ2⟩, hbV⟩
        clear OP
        have HJ2 : Hid (IsJ V [q2, p, B] q2 p 1 (count / 2) (opn s.cs 1 (count / 2))) := hJ2
        have HbV : Hid (Below X.heap.size X V) := hbV
        have RO := ropened_any (HX.out.next hbV).ms
        clear hJ2 hbV x0 x1 x2 x3
        go_wp2_with fail
        with_reducible refine RO.mono ?_
        rintro e Z ⟨rfl, hM2, hK2⟩
        clear RO
        obtain ⟨hN, hcut2⟩ := HX.out.reopen n2 HbV.out hq2 HJ2.out hK2.bel hM2 (Nat.le_succ _) (Nat.le_refl _)
        have HN : Hid (One w Z p B q2 (V.heap.size + 1) V.heap.size count (opn s.cs 1 (count / 2)) (opn s.cs 1 (count / 2)).all s (2 + 70000 * (i + 1))) := hN.more (by omega)
        have HC : Hid ((opn s.cs 1 (count / 2)).cut = false) := hcut2
        clear hM2 hK2 hN hcut2
        go_wp2_with fail
        exact ⟨⟨i + 1, q2, _, _, _, s, by omega, by go_num, rfl, rfl, rfl, HN.out, HC.out, hof⟩, by simp [intOf]; omega⟩
      have h5' : ¬ x.kind.tmod 6 = 5 := by rw [Int.tmod_eq_emod_of_nonneg k0.1]; exact h5
      have h4' : ¬ x.kind.tmod 6 = 4 := by rw [Int.tmod_eq_emod_of_nonneg k0.1]; exact h4
      have WD := would_any HX.out.ms HX.out.a.op.grp.lens (by omega) n2 x hx ab x.bs.length cb HRX.out
      go_wp2_with fail
      with_reducible refine OF.mono ?_
      rintro e wr ⟨rfl, rfl⟩
      clear OF
      go_wp2_with fail
      clear p0 p1 p2 p3
      generalize (wr.alloc (.cells #[.int .u8 x.kind, .int .u8 x.grp, .slice ab x.bs.length cb, .int .u16 x.more] 36)) = X at *
      with_reducible refine WD.mono ?_
      rintro e Y ⟨d2, db2, rfl, hd, hdb, hM, hK⟩
      clear WD
      have HY : Hid (One w Y p B q d db count j j.all s (2 + 70000 * i)) := HX.out.next hK.bel
      have x0 := hK.cell x0 (by simp)
      have x1 := hK.cell x1 (by simp)
      have x2 := hK.cell x2 (by simp)
      have x3 := hK.cell x3 (by simp)
      have DS := does_any HY.out.fs _ HY.out.le (by omega) HY.out.a.js HY.out.a.op.ok HY.out.a.qp HY.out.a.qB (by omega) (by omega) (by omega) HY.out.a.pS HY.out.a.BS HY.out.a.qS HY.out.a.lt x hx ab x.bs.length cb (HRX.out.next hK.bel)
      have HH := fun e Z hp => One.does (e := e) (Z := Z) HX.out hcut hof n8 n2 x hx hK hd hdb hM hp
      obtain ⟨E, hE⟩ : ∃ E, Hid ((doesM count j.all x).1 = E) := ⟨_, rfl⟩
      obtain ⟨M2, hM2⟩ : ∃ M2, Hid ((doesM count j.all x).2 = M2) := ⟨_, rfl⟩
      rw [hE.out, hM2.out] at HH
      rw [hE.out]
      have eE : (E != E) = false := by simp
      have HH : Hid _ := HH
      have HXd : Hid (Kp [] X Y ∧ X.heap.size ≤ d2 ∧ X.heap.size ≤ db2) := ⟨hK, hd, hdb⟩
      clear hK hd hdb hM
      go_wp2_with fail
      with_reducible refine DS.mono ?_
      rintro e Z hp
      rcases HH.out e Z hp with ⟨rfl, j2, s2, hN, hcutn, hofn⟩ | ⟨rfl, rfl, j2, s2, hG, hofn⟩
      · have OF2 := off_any hN.fs
        rw [hofn] at OF2
        have HN : Hid (One w Z p B q d2 db2 count j2 j2.all s2 (2 + 70000 * i + 70000)) := hN
        have HC : Hid (j2.cut = false ∧ s2.of = false) := ⟨hcutn, hofn⟩
        have SA := same_any hN.a.js hN.ms hN.a.op.grp.octs
        rw [agr_refl] at SA
        clear hN hcutn hofn HY DS HH hp
        go_wp2_with fail
        with_reducible refine OF2.mono ?_
        rintro e Z ⟨rfl, rfl⟩
        clear OF2
        go_wp2_with fail
        with_reducible refine SA.mono ?_
        rintro e V9 ⟨rfl, hV9⟩
        clear SA
        have HN : Hid (One w V9 p B q d2 db2 count j2 j2.all s2 (2 + 70000 * (i + 1))) := (HN.out.next hV9).more (by omega)
        clear hV9 x0 x1 x2 x3
        go_wp2_with fail
        exact ⟨⟨i + 1, q, d2, db2, j2, s2, by omega, by go_num, rfl, rfl, rfl, HN.out, HC.out.1, HC.out.2⟩, by simp [intOf]; omega⟩
      · have OF2 := off_any hG.fs
        rw [hofn] at OF2
        have HG : Hid (Gone w Z p B q d db d2 db2 count j2 M2 s2 (2 + 70000 * i + 70000)) := hG
        have SA := same_any hG.js hG.m1 hG.g1.octs
        rw [agr_refl] at SA
        clear hG hofn HY DS HH hp
        go_wp2_with fail
        with_reducible refine OF2.mono ?_
        rintro e Z ⟨rfl, rfl⟩
        clear OF2
        go_wp2_with fail
        with_reducible refine SA.mono ?_
        rintro e Z1 ⟨rfl, hb1⟩
        clear SA
        have HG1 : Hid (Gone w Z1 p B q d db d2 db2 count j2 M2 s2 (2 + 70000 * i + 70000)) := HG.out.next hb1
        have ST := HG1.out.store (by omega) n2 n8
        clear hb1 x0 x1 x2 x3
        go_wp2_with fail
        with_reducible refine ST.mono ?_
        rintro e Z2 hp2
        obtain ⟨rfl, hG2⟩ := HG1.out.call hp2
        have HG2 : Hid (Gone w Z2 p B q d db d2 db2 count j2 M2 s2 (2 + 70000 * i + 70000)) := hG2
        have ON := on_any hG2.fs
        clear ST hp2 hG2
        go_wp2_with fail
        with_reducible refine ON.mono ?_
        rintro e Z3 ⟨rfl, hF3, hK3⟩
        have HG3 : Hid (Gone w Z3 p B q d db d2 db2 count j2 M2 ⟨s2.cs, s2.st, false, 0, false⟩ (2 + 70000 * i + 70000)) := HG2.out.on hF3 hK3
        have ST := HG3.out.store (by omega) n2 n8
        obtain ⟨s3, hs3⟩ : ∃ s3 : FS, Hid ((⟨s2.cs, s2.st, false, 0, false⟩ : FS) = s3 ∧ s3.of = false) := ⟨_, rfl, rfl⟩
        rw [hs3.out.1] at HG3 ST
        clear ON hF3 hK3
        go_wp2_with fail
        with_reducible refine ST.mono ?_
        rintro e Z4 hp4
        obtain ⟨rfl, hG4⟩ := HG3.out.call hp4
        have HG4 : Hid (Gone w Z4 p B q d db d2 db2 count j2 M2 s3 (2 + 70000 * i + 70000)) := hG4
        have RE := hG4.restore (by omega) n2 n8
        clear ST hp4 hG4
        go_wp2_with fail
        with_reducible refine RE.mono ?_
        rintro e Z5 hp5
        obtain ⟨rfl, hG5⟩ := HG4.out.call hp5
        have HG5 : Hid (Gone w Z5 p B q d db d2 db2 count j2 M2 s3 (2 + 70000 * i + 70000)) := hG5
        have OP := open_ok hG5.fs hs3.out.2 1 count n2 (by omega) [p, B] (fun y hy => hG5.lt y (by simp at hy ⊢; omega))
        rw [show ((1 : Nat) : Int) = 1 from rfl] at OP
        clear RE hp5 hG5
        go_wp2_with fail
        with_reducible refine OP.mono ?_
        rintro e V ⟨⟨q3, rfl, hq3, hJ3⟩, hbV⟩
        clear OP
        have HJ3 : Hid (IsJ V [q3, p, B] q3 p 1 (count / 2) (opn s3.cs 1 (count / 2))) := hJ3
        have HbV : Hid (Below Z5.heap.size Z5 V) := hbV
        have RO := ropened_any (HG5.out.next hbV).m2
        clear hJ3 hbV
        go_wp2_with fail
        with_reducible refine RO.mono ?_
        rintro e Z6 ⟨rfl, hM6, hK6⟩
        clear RO
        have HK6 : Hid (Below V.heap.size V Z6) := hK6.bel
        have SA := same_any (HJ3.out.next hK6.bel) hM6 HG5.out.g2.drop.octs
        rw [HG5.out.found] at SA
        obtain ⟨b, hb⟩ : ∃ b, Hid (agr (dropG j2.all) (dropG M2) = b) := ⟨_, rfl⟩
        rw [hb.out] at SA
        clear hM6 hK6
        cases b with
        | true =>
          go_wp2_with fail
          with_reducible refine SA.mono ?_
          rintro e Z7 ⟨rfl, hb7⟩
          clear SA
          have HK7 : Hid (Below V.heap.size V Z7) := Below.andThen HK6.out hb7
          have RO := ropened_any ((HG5.out.next HbV.out).next HK7.out).m2
          clear hb7
          go_wp2_with fail
          with_reducible refine RO.mono ?_
          rintro e Z8 ⟨rfl, hM8, hK8⟩
          clear RO
          have hv7 := HK7.out.size
          obtain ⟨hN, hcn⟩ := HG5.out.open (D := Z7.heap.size + 1) (DB := Z7.heap.size) n2 HbV.out hq3 HJ3.out (Below.andThen HK7.out hK8.bel) (by rw [agr_drop HG5.out.g1.n16 HG5.out.g2.n16 hb.out]; exact hM8) (by omega) hv7
          have HN : Hid (One w Z8 p B q3 (Z7.heap.size + 1) Z7.heap.size count (opn s3.cs 1 (count / 2)) (opn s3.cs 1 (count / 2)).all s3 (2 + 70000 * (i + 1))) := hN.more (by omega)
          have HC : Hid ((opn s3.cs 1 (count / 2)).cut = false ∧ s3.of = false) := ⟨hcn, hs3.out.2⟩
          clear hM8 hK8 hN hcn
          go_wp2_with fail
          exact ⟨⟨i + 1, q3, _, _, _, s3, by omega, by go_num, rfl, rfl, rfl, HN.out, HC.out.1, HC.out.2⟩, by simp [intOf]; omega⟩
        | false =>
          go_wp2_with fail
          with_reducible refine SA.mono ?_
          rintro e Z7 ⟨rfl, hb7⟩
          clear SA
          have HK7 : Hid (Below V.heap.size V Z7) := Below.andThen HK6.out hb7
          have RO := ropened_any ((HG5.out.next HbV.out).next HK7.out).m1
          clear hb7
          go_wp2_with fail
          with_reducible refine RO.mono ?_
          rintro e Z8 ⟨rfl, hM8, hK8⟩
          clear RO
          have HK8 : Hid (Below V.heap.size V Z8) := Below.andThen HK7.out hK8.bel
          have SA := same_any (HJ3.out.next HK8.out) hM8 HG5.out.g1.drop.octs
          rw [HG5.out.found, agr_refl] at SA
          clear hM8 hK8
          go_wp2_with fail
          with_reducible refine SA.mono ?_
          rintro e Z9 ⟨rfl, hb9⟩
          clear SA
          have HK9 : Hid (Below V.heap.size V Z9) := Below.andThen HK8.out hb9
          have RO := ropened_any ((HG5.out.next HbV.out).next HK9.out).m1
          clear hb9
          go_wp2_with fail
          with_reducible refine RO.mono ?_
          rintro e Z10 ⟨rfl, hM10, hK10⟩
          clear RO
          have hv9 := HK9.out.size
          obtain ⟨hN, hcn⟩ := HG5.out.open (D := Z9.heap.size + 1) (DB := Z9.heap.size) n2 HbV.out hq3 HJ3.out (Below.andThen HK9.out hK10.bel) hM10 (by omega) hv9
          have HN : Hid (One w Z10 p B q3 (Z9.heap.size + 1) Z9.heap.size count (opn s3.cs 1 (count / 2)) (opn s3.cs 1 (count / 2)).all s3 (2 + 70000 * (i + 1))) := hN.more (by omega)
          have HC : Hid ((opn s3.cs 1 (count / 2)).cut = false ∧ s3.of = false) := ⟨hcn, hs3.out.2⟩
          clear hM10 hK10 hN hcn
          go_wp2_with fail
          exact ⟨⟨i + 1, q3, _, _, _, s3, by omega, by go_num, rfl, rfl, rfl, HN.out, HC.out.1, HC.out.2⟩, by simp [intOf]; omega⟩
    · have gl1 : ¬ (i : Int) < (la : Int) := by omega
      have CU := cut_any HT.out.fs (-1)
      go_wp2_with fail
      with_reducible refine OF.mono ?_
      rintro e wr ⟨rfl, rfl⟩
      clear OF
      go_wp2_with fail
      with_reducible refine CU.mono ?_
      rintro e U ⟨rfl, hF, hKU⟩
      clear CU
      have HB : Hid (Below w.heap.size w U) := hKU.below HT.out.bel HT.out.bel.size (fun y hy => by simp at hy; subst hy; exact HT.out.new _ (by simp))
      obtain ⟨hA, hB⟩ := away_ab (by omega) HT.out.away
      have AP := apart_any (s := ⟨s.cs, s.st, decide ((0 : Int) ≤ -1), max (-1) 0, s.of⟩) hF hof n8 hA hB
      clear hF hKU hA hB
      go_wp2_with fail
      with_reducible refine AP.mono ?_
      rintro e V2 ⟨rfl, hV2⟩
      clear AP
      have HV2 : Hid (Below w.heap.size w V2) := Below.andThen HB.out hV2
      have WK := works_any V2
      clear hV2
      go_wp2_with fail
      with_reducible refine WK.mono ?_
      rintro e V3 ⟨rfl, hV3⟩
      clear WK
      have HV3 : Hid (Below w.heap.size w V3) := Below.andThen HV2.out hV3
      clear hV3
      go_wp2_with fail
      go_ret
      exact ⟨rfl, HV3.out⟩
#print axioms journalCuts_any
end Go.Proofs.Ytgpbmccjcjoijaa
