/-
  The walk of JournalTwo.
  The walk of JournalPlays.
  The walk of JournalCuts.
-/
import Derived.Test.YtgpbmccjcjoijaaKjt
namespace Go.Proofs.Ytgpbmccjcjoijaa
open Go.RowKit

theorem Two.more {w0 wr : World} {p B q1 q2 d db f fb : Nat} {j1 j2 : JS} {s : FS} {m k : Nat} (h : Two w0 wr p B q1 q2 d db f fb j1 j2 s m) (hm : m ≤ k) : Two w0 wr p B q1 q2 d db f fb j1 j2 s k :=
  ⟨h.bel, h.fs, h.le.more hm, h.of, h.ar, h.a1, h.a2, h.c1, h.c2, h.m1, h.m2, h.n1, h.n2, h.new, h.ne⟩
theorem IsOx.gets {w : World} {a : Option Addr} {len : Nat} {l : List Opx} (h : IsOx w a len l) (i : Nat) (hi : i < len) : ∃ b off x ab cb, x ∈ l ∧ a = some ⟨b, off, none⟩ ∧ ∀ W, Below w.heap.size w W → W.cell? ⟨b, off + i * 4, none⟩ = some (.int .u8 x.kind) ∧ W.cell? ⟨b, off + i * 4 + 1, none⟩ = some (.int .u8 x.grp) ∧ W.cell? ⟨b, off + i * 4 + 2, none⟩ = some (.slice ab x.bs.length cb) ∧ W.cell? ⟨b, off + i * 4 + 3, none⟩ = some (.int .u16 x.more) ∧ Row W ab x.bs.length x.bs := by
  obtain ⟨b, off, x, ab, cb, _, hm, e, c0, c1, c2, c3, r⟩ := h.get i hi
  have hl : b < w.heap.size := block_lt_of_cell c0
  exact ⟨b, off, x, ab, cb, hm, e, fun W hb => ⟨by rw [hb.cell hl]; exact c0, by rw [hb.cell hl]; exact c1, by rw [hb.cell hl]; exact c2, by rw [hb.cell hl]; exact c3, r.next hb⟩⟩
theorem IsG.wider {w w' : World} {S : List Nat} {all : List Gp} {ss : List SL} (h : IsG w S all ss) (hb : Below w.heap.size w w') (x : Nat) (hx : w.heap.size ≤ x) : IsG w' (x :: S) all ss := ⟨h.n1, h.n2, fun i g s h1 h2 => by
  obtain ⟨r, l, hn⟩ := h.row i g s h1 h2
  refine ⟨r.next hb, l, fun hp b off e hm => ?_⟩
  rcases List.mem_cons.1 hm with h0 | hm
  · have := r.old hp b off e
    omega
  · exact hn hp b off e hm⟩
theorem IsJ.wider {w w' : World} {S : List Nat} {q p first k : Nat} {j : JS} (h : IsJ w S q p first k j) (hb : Below w.heap.size w w') (x : Nat) (hx : w.heap.size ≤ x) : IsJ w' (x :: S) q p first k j := by
  obtain ⟨ss, h, hI⟩ := h
  exact ⟨ss, (hb.block q (lt_of_heap h)).trans h, hI.wider hb x hx⟩

set_option linter.unusedSimpArgs false in
set_option maxHeartbeats 16000000 in
set_option maxRecDepth 100000 in
theorem journalTwo_any {w : World} {a b : Option Addr} {la lb : Nat} {l1 l2 : List Opx} (o1 : IsOx w a la l1) (o2 : IsOx w b lb l2) (ca cb : Nat) (h1 : la ≤ maxLen) (h2 : lb ≤ maxLen) :
    Calls Try.prog 6 #[.slice a la ca, .slice b lb cb] w fun e w' => e = .returned (.bool true) ∧ Below w.heap.size w w' := by
  have LA := large_any o1 ca h1
  have LB := large_any o2 cb h2
  have WK := works_any w
  have Ho1 : Hid (IsOx w a la l1) := o1
  have Ho2 : Hid (IsOx w b lb l2) := o2
  clear o1 o2
  go_enter Try.func6, Try.ntmps6
  go_wp2_with fail
  with_reducible refine LA.mono ?_
  rintro e w ⟨r1, rfl, hr1, rfl⟩
  clear LA
  cases r1 with
  | true =>
    clear LB hr1
    go_wp2_with fail
    with_reducible refine WK.mono ?_
    rintro e Z ⟨rfl, hZ⟩
    clear WK
    go_wp2_with fail
    go_ret
    exact ⟨rfl, hZ⟩
  | false =>
  have hr1 := hr1 rfl
  have HR1 : Hid (la ≤ 60 ∧ ∀ x ∈ l1, x.bs.length ≤ 20000) := hr1
  clear hr1
  go_wp2_with fail
  with_reducible refine LB.mono ?_
  rintro e w ⟨r2, rfl, hr2, rfl⟩
  clear LB
  cases r2 with
  | true =>
    clear hr2
    go_wp2_with fail
    with_reducible refine WK.mono ?_
    rintro e Z ⟨rfl, hZ⟩
    clear WK
    go_wp2_with fail
    go_ret
    exact ⟨rfl, hZ⟩
  | false =>
  obtain ⟨hla, hl1⟩ := HR1.out
  obtain ⟨hlb, hl2⟩ := hr2 rfl
  have HL1 : Hid (∀ x ∈ l1, x.bs.length ≤ 20000) := hl1
  have HL2 : Hid (∀ x ∈ l2, x.bs.length ≤ 20000) := hl2
  have NW := new_ok 6 (by omega) (by omega) w
  rw [show ((6 : Nat) : Int) = 6 from rfl] at NW
  clear HR1 hr2 hl1 hl2 WK
  go_wp2_with fail
  with_reducible refine NW.mono ?_
  rintro e U ⟨⟨p, B, rfl, hp, hB, hF⟩, hb⟩
  clear NW
  have HF : Hid (IsS U p B 6 6 (newS 6)) := hF
  have HU : Hid (Below w.heap.size w U) := hb
  have hlt := hF.lt
  have OP := open_ok hF rfl 0 2 (by omega) (by omega) [p, B] (by simp; omega)
  rw [show ((0 : Nat) : Int) = 0 from rfl, show ((2 : Nat) : Int) = 2 from rfl] at OP
  clear hF hb
  go_wp2_with fail
  with_reducible refine OP.mono ?_
  rintro e V ⟨⟨q1, rfl, hq1, hJ1⟩, hbV⟩
  clear OP
  have HJ1 : Hid (IsJ V [q1, p, B] q1 p 0 1 (opn (newS 6).cs 0 1)) := hJ1
  have HbV : Hid (Below U.heap.size U V) := hbV
  have q1l : q1 < V.heap.size := by obtain ⟨_, h, _⟩ := hJ1; exact lt_of_heap h
  have hUV := hbV.size
  have OQ := open_ok (HF.out.next hbV) rfl 3 3 (by omega) (by omega) [q1, p, B] (by simp; omega)
  rw [show ((3 : Nat) : Int) = 3 from rfl] at OQ
  clear hJ1 hbV
  go_wp2_with fail
  with_reducible refine OQ.mono ?_
  rintro e X ⟨⟨q2, rfl, hq2, hJ2⟩, hbX⟩
  clear OQ
  have HJ2 : Hid (IsJ X [q2, q1, p, B] q2 p 3 1 (opn (newS 6).cs 3 1)) := hJ2
  have HJ1' : Hid (IsJ X [q2, q1, p, B] q1 p 0 1 (opn (newS 6).cs 0 1)) := HJ1.out.wider hbX q2 hq2
  have HbX : Hid (Below V.heap.size V X) := hbX
  have q2l : q2 < X.heap.size := by obtain ⟨_, h, _⟩ := hJ2; exact lt_of_heap h
  have hVX := hbX.size
  have RN := rnew_any 2 X
  rw [show ((2 : Nat) : Int) = 2 from rfl] at RN
  clear hJ2 hbX HJ1
  go_wp2_with fail
  with_reducible refine RN.mono ?_
  rintro e X2 ⟨rfl, hM1, hK1⟩
  clear RN
  have RN := rnew_any 3 X2
  rw [show ((3 : Nat) : Int) = 3 from rfl] at RN
  have HM1 : Hid (IsM X2 (X.heap.size + 1) X.heap.size 2 all0) := hM1
  have HK1 : Hid (Kp [] X X2) := hK1
  have dl : X.heap.size + 1 < X2.heap.size := lt_of_heap hM1.top
  clear hM1 hK1
  go_wp2_with fail
  with_reducible refine RN.mono ?_
  rintro e X3 ⟨rfl, hM2, hK2⟩
  clear RN
  have HT0 : Hid (Two w X3 p B q1 q2 (X.heap.size + 1) X.heap.size (X2.heap.size + 1) X2.heap.size (opn (newS 6).cs 0 1) (opn (newS 6).cs 3 1) (newS 6) (140000 * 0)) := by
    have b3 : Below X.heap.size X X3 := Below.andThen HK1.out.bel hK2.bel
    have F3 := ((HF.out.next HbV.out).next HbX.out).next b3
    have w1 := HU.out.size
    have o1 := Go.Proofs.Ytgpbmccjcjoijaa.opened (first := 0) (count := 2) HF.out.oct HF.out.len (by omega) (by omega)
    have o2 := Go.Proofs.Ytgpbmccjcjoijaa.opened (first := 3) (count := 3) HF.out.oct HF.out.len (by omega) (by omega)
    refine ⟨Below.andThen (Below.andThen (Below.andThen HU.out HbV.out) HbX.out) b3, F3, ⟨by decide, by decide, by decide, by decide⟩, rfl, rfl, Jat.next ⟨HJ1'.out, o1.1, by omega, by omega, by simp, by simp, by simp, by simp; omega⟩ b3, Jat.next ⟨HJ2.out, o2.1, by omega, by omega, by simp, by simp, by simp, by simp; omega⟩ b3, o1.2, o2.2, ?_, ?_, by simp; omega, by simp; omega, by simp; omega, by omega⟩
    · rw [show (opn (newS 6).cs 0 1).all = all0 from new_blank 6 0 1]; exact HM1.out.next hK2.bel
    · rw [show (opn (newS 6).cs 3 1).all = all0 from new_blank 6 3 1]; exact hM2
  clear HF HU HJ1' HJ2 HbV HbX HM1 HK1 hM2 hK2
  generalize (opn (newS 6).cs 0 1) = J1 at *
  generalize (opn (newS 6).cs 3 1) = J2 at *
  generalize newS 6 = S0 at *
  generalize X.heap.size + 1 = D0 at *
  generalize X.heap.size = E0 at *
  generalize X2.heap.size + 1 = D1 at *
  generalize X2.heap.size = E1 at *
  go_wp2_with fail
  go_loopw [11, 12, 13] (fun vm vn vi wr => ∃ (i d db f fb : Nat) (j1 j2 : JS) (s : FS), i ≤ la + lb ∧ vi = .int .i64 i ∧ vm = .pointer (some ⟨d, 0, none⟩) ∧ vn = .pointer (some ⟨f, 0, none⟩) ∧ Two w wr p B q1 q2 d db f fb j1 j2 s (140000 * i)) (fun _ _ vi _ => la + lb - (intOf vi).toNat)
  case atStart => exact ⟨0, D0, E0, D1, E1, J1, J2, S0, by omega, rfl, rfl, rfl, HT0.out⟩
  case round =>
    obtain ⟨i, d, db, f, fb, j1, j2, s, hi, rfl, rfl, rfl, hT⟩ := hrel
    have HT : Hid (Two w wr p B q1 q2 d db f fb j1 j2 s (140000 * i)) := hT
    clear hT HT0
    have gi : (0 : Int) ≤ i := by omega
    by_cases hend : i < la ∨ i < lb
    · by_cases hlt1 : i < la
      · have gl1 : (i : Int) < (la : Int) := by omega
        obtain ⟨b1, off1, x1, ab1, cb1, hm1, rfl, hX⟩ := Ho1.out.gets i hlt1
        have HX1 : Hid (∀ W, Below w.heap.size w W → W.cell? ⟨b1, off1 + i * 4, none⟩ = some (.int .u8 x1.kind) ∧ W.cell? ⟨b1, off1 + i * 4 + 1, none⟩ = some (.int .u8 x1.grp) ∧ W.cell? ⟨b1, off1 + i * 4 + 2, none⟩ = some (.slice ab1 x1.bs.length cb1) ∧ W.cell? ⟨b1, off1 + i * 4 + 3, none⟩ = some (.int .u16 x1.more) ∧ Row W ab1 x1.bs.length x1.bs) := hX
        clear hX
        have hx1 : x1.Ok := (Ho1.out.ok x1 hm1).ok (HL1.out x1 hm1)
        have k10 := hx1.k0
        by_cases h14 : x1.kind % 6 < 4
        · have h14' : x1.kind.tmod 6 < 4 := by rw [Int.tmod_eq_emod_of_nonneg k10.1]; exact h14
          by_cases hlt2 : i < lb
          · have gl2 : (i : Int) < (lb : Int) := by omega
            obtain ⟨b2, off2, x2, ab2, cb2, hm2, rfl, hX⟩ := Ho2.out.gets i hlt2
            have HX2 : Hid (∀ W, Below w.heap.size w W → W.cell? ⟨b2, off2 + i * 4, none⟩ = some (.int .u8 x2.kind) ∧ W.cell? ⟨b2, off2 + i * 4 + 1, none⟩ = some (.int .u8 x2.grp) ∧ W.cell? ⟨b2, off2 + i * 4 + 2, none⟩ = some (.slice ab2 x2.bs.length cb2) ∧ W.cell? ⟨b2, off2 + i * 4 + 3, none⟩ = some (.int .u16 x2.more) ∧ Row W ab2 x2.bs.length x2.bs) := hX
            clear hX
            have hx2 : x2.Ok := (Ho2.out.ok x2 hm2).ok (HL2.out x2 hm2)
            have k20 := hx2.k0
            by_cases h24 : x2.kind % 6 < 4
            · have h24' : x2.kind.tmod 6 < 4 := by rw [Int.tmod_eq_emod_of_nonneg k20.1]; exact h24
              obtain ⟨p10, p11, p12, p13, r1⟩ := HX1.out wr HT.out.bel
              obtain ⟨p20, p21, p22, p23, r2⟩ := HX2.out wr HT.out.bel
              have WD := would_any HT.out.m1 HT.out.a1.op.grp.lens (by omega) (by omega) x1 hx1 ab1 x1.bs.length cb1 r1
              clear r1
              go_wp2_with fail
              with_reducible refine WD.mono ?_
              rintro e Y1 ⟨d1, db1, rfl, hd, hdb, hM, hK⟩
              clear WD
              have HY : Hid (Two w Y1 p B q1 q2 d db f fb j1 j2 s (140000 * i)) := HT.out.next hK.bel
              have HST : Hid (∀ e Z, KeepPost Y1 p B 6 6 q1 0 1 [q2, q1, p, B] (doesJ 6 0 1 j1 x1 s) e Z → e = .returned (.int .i64 (doesM 2 j1.all x1).1) ∧ ∃ j' s', Two w Z p B q1 q2 d1 db1 f fb j' j2 s' ((140000 * i) + 70000)) := fun e Z hp => Two.one HT.out x1 hx1 hK hd hdb hM hp
              clear p10 p11 p12 p13
              obtain ⟨p10, p11, p12, p13, r1⟩ := HX1.out Y1 HY.out.bel
              clear p20 p21 p22 p23
              clear r2
              obtain ⟨p20, p21, p22, p23, r2⟩ := HX2.out Y1 HY.out.bel
              have DS := does_any HY.out.fs (140000 * i) HY.out.le (by have := hi; omega) HY.out.a1.js HY.out.a1.op.ok HY.out.a1.qp HY.out.a1.qB (by omega) (by omega) (by omega) HY.out.a1.pS HY.out.a1.BS HY.out.a1.qS HY.out.a1.lt x1 hx1 ab1 x1.bs.length cb1 r1
              obtain ⟨E1, hE1⟩ : ∃ E, Hid ((doesM 2 j1.all x1).1 = E) := ⟨_, rfl⟩
              rw [hE1.out] at HST
              rw [hE1.out]
              have eE1 : (E1 != E1) = false := by simp
              clear hd hdb hM hK r1
              go_wp2_with fail
              with_reducible refine DS.mono ?_
              rintro e Z1 hp
              obtain ⟨rfl, k1, s1, hTn⟩ := HST.out e Z1 hp
              have HT1 : Hid (Two w Z1 p B q1 q2 d1 db1 f fb k1 j2 s1 ((140000 * i) + 70000)) := hTn
              clear DS hp hTn HST HY
              clear p10 p11 p12 p13
              clear p20 p21 p22 p23
              clear r2
              obtain ⟨p20, p21, p22, p23, r2⟩ := HX2.out Z1 HT1.out.bel
              have WD := would_any HT1.out.m2 HT1.out.a2.op.grp.lens (by omega) (by omega) x2 hx2 ab2 x2.bs.length cb2 r2
              clear r2
              go_wp2_with fail
              with_reducible refine WD.mono ?_
              rintro e Y2 ⟨f1, fb1, rfl, hd, hdb, hM, hK⟩
              clear WD
              have HY : Hid (Two w Y2 p B q1 q2 d1 db1 f fb k1 j2 s1 ((140000 * i) + 70000)) := HT1.out.next hK.bel
              have HST : Hid (∀ e Z, KeepPost Y2 p B 6 6 q2 3 1 [q2, q1, p, B] (doesJ 6 3 1 j2 x2 s1) e Z → e = .returned (.int .i64 (doesM 3 j2.all x2).1) ∧ ∃ j' s', Two w Z p B q1 q2 d1 db1 f1 fb1 k1 j' s' (((140000 * i) + 70000) + 70000)) := fun e Z hp => Two.two HT1.out x2 hx2 hK hd hdb hM hp
              clear p20 p21 p22 p23
              obtain ⟨p20, p21, p22, p23, r2⟩ := HX2.out Y2 HY.out.bel
              have DS := does_any HY.out.fs ((140000 * i) + 70000) HY.out.le (by have := hi; omega) HY.out.a2.js HY.out.a2.op.ok HY.out.a2.qp HY.out.a2.qB (by omega) (by omega) (by omega) HY.out.a2.pS HY.out.a2.BS HY.out.a2.qS HY.out.a2.lt x2 hx2 ab2 x2.bs.length cb2 r2
              obtain ⟨E2, hE2⟩ : ∃ E, Hid ((doesM 3 j2.all x2).1 = E) := ⟨_, rfl⟩
              rw [hE2.out] at HST
              rw [hE2.out]
              have eE2 : (E2 != E2) = false := by simp
              clear hd hdb hM hK r2
              go_wp2_with fail
              with_reducible refine DS.mono ?_
              rintro e Z2 hp
              obtain ⟨rfl, k2, s2, hTn⟩ := HST.out e Z2 hp
              have HT2 : Hid (Two w Z2 p B q1 q2 d1 db1 f1 fb1 k1 k2 s2 (((140000 * i) + 70000) + 70000)) := hTn
              clear DS hp hTn HST HY
              clear p20 p21 p22 p23
              have SA := same_any HT2.out.a1.js HT2.out.m1 HT2.out.a1.op.grp.octs
              rw [agr_refl] at SA
              go_wp2_with fail
              with_reducible refine SA.mono ?_
              rintro e V ⟨rfl, hV⟩
              clear SA
              have HV := HT2.out.next hV
              have SB := same_any HV.a2.js HV.m2 HV.a2.op.grp.octs
              rw [agr_refl] at SB
              have HV : Hid (Two w V p B q1 q2 d1 db1 f1 fb1 k1 k2 s2 (((140000 * i) + 70000) + 70000)) := HV
              clear hV
              go_wp2_with fail
              with_reducible refine SB.mono ?_
              rintro e V2 ⟨rfl, hV2⟩
              clear SB
              have HN : Hid (Two w V2 p B q1 q2 d1 db1 f1 fb1 k1 k2 s2 (140000 * (i + 1))) := (HV.out.next hV2).more (by omega)
              clear hV2
              go_wp2_with fail
              exact ⟨⟨i + 1, d1, db1, f1, fb1, k1, k2, s2, by omega, by go_num, rfl, rfl, HN.out⟩, by simp [intOf]; omega⟩
            · have h24' : ¬ x2.kind.tmod 6 < 4 := by rw [Int.tmod_eq_emod_of_nonneg k20.1]; exact h24
              obtain ⟨p10, p11, p12, p13, r1⟩ := HX1.out wr HT.out.bel
              obtain ⟨p20, p21, p22, p23, r2⟩ := HX2.out wr HT.out.bel
              clear p21 p22 p23 r2
              have WD := would_any HT.out.m1 HT.out.a1.op.grp.lens (by omega) (by omega) x1 hx1 ab1 x1.bs.length cb1 r1
              clear r1
              go_wp2_with fail
              with_reducible refine WD.mono ?_
              rintro e Y1 ⟨d1, db1, rfl, hd, hdb, hM, hK⟩
              clear WD
              have HY : Hid (Two w Y1 p B q1 q2 d db f fb j1 j2 s (140000 * i)) := HT.out.next hK.bel
              have HST : Hid (∀ e Z, KeepPost Y1 p B 6 6 q1 0 1 [q2, q1, p, B] (doesJ 6 0 1 j1 x1 s) e Z → e = .returned (.int .i64 (doesM 2 j1.all x1).1) ∧ ∃ j' s', Two w Z p B q1 q2 d1 db1 f fb j' j2 s' ((140000 * i) + 70000)) := fun e Z hp => Two.one HT.out x1 hx1 hK hd hdb hM hp
              clear p10 p11 p12 p13
              obtain ⟨p10, p11, p12, p13, r1⟩ := HX1.out Y1 HY.out.bel
              clear p20
              obtain ⟨p20, p21, p22, p23, r2⟩ := HX2.out Y1 HY.out.bel
              clear p21 p22 p23 r2
              have DS := does_any HY.out.fs (140000 * i) HY.out.le (by have := hi; omega) HY.out.a1.js HY.out.a1.op.ok HY.out.a1.qp HY.out.a1.qB (by omega) (by omega) (by omega) HY.out.a1.pS HY.out.a1.BS HY.out.a1.qS HY.out.a1.lt x1 hx1 ab1 x1.bs.length cb1 r1
              obtain ⟨E1, hE1⟩ : ∃ E, Hid ((doesM 2 j1.all x1).1 = E) := ⟨_, rfl⟩
              rw [hE1.out] at HST
              rw [hE1.out]
              have eE1 : (E1 != E1) = false := by simp
              clear hd hdb hM hK r1
              go_wp2_with fail
              with_reducible refine DS.mono ?_
              rintro e Z1 hp
              obtain ⟨rfl, k1, s1, hTn⟩ := HST.out e Z1 hp
              have HT1 : Hid (Two w Z1 p B q1 q2 d1 db1 f fb k1 j2 s1 ((140000 * i) + 70000)) := hTn
              clear DS hp hTn HST HY
              clear p10 p11 p12 p13
              clear p20
              obtain ⟨p20, p21, p22, p23, r2⟩ := HX2.out Z1 HT1.out.bel
              clear p21 p22 p23 r2
              have SA := same_any HT1.out.a1.js HT1.out.m1 HT1.out.a1.op.grp.octs
              rw [agr_refl] at SA
              go_wp2_with fail
              with_reducible refine SA.mono ?_
              rintro e V ⟨rfl, hV⟩
              clear SA
              have HV := HT1.out.next hV
              have SB := same_any HV.a2.js HV.m2 HV.a2.op.grp.octs
              rw [agr_refl] at SB
              have HV : Hid (Two w V p B q1 q2 d1 db1 f fb k1 j2 s1 ((140000 * i) + 70000)) := HV
              clear hV
              go_wp2_with fail
              with_reducible refine SB.mono ?_
              rintro e V2 ⟨rfl, hV2⟩
              clear SB
              have HN : Hid (Two w V2 p B q1 q2 d1 db1 f fb k1 j2 s1 (140000 * (i + 1))) := (HV.out.next hV2).more (by omega)
              clear hV2
              go_wp2_with fail
              exact ⟨⟨i + 1, d1, db1, f, fb, k1, j2, s1, by omega, by go_num, rfl, rfl, HN.out⟩, by simp [intOf]; omega⟩
          · have gl2 : ¬ (i : Int) < (lb : Int) := by omega
            obtain ⟨p10, p11, p12, p13, r1⟩ := HX1.out wr HT.out.bel
            have WD := would_any HT.out.m1 HT.out.a1.op.grp.lens (by omega) (by omega) x1 hx1 ab1 x1.bs.length cb1 r1
            clear r1
            go_wp2_with fail
            with_reducible refine WD.mono ?_
            rintro e Y1 ⟨d1, db1, rfl, hd, hdb, hM, hK⟩
            clear WD
            have HY : Hid (Two w Y1 p B q1 q2 d db f fb j1 j2 s (140000 * i)) := HT.out.next hK.bel
            have HST : Hid (∀ e Z, KeepPost Y1 p B 6 6 q1 0 1 [q2, q1, p, B] (doesJ 6 0 1 j1 x1 s) e Z → e = .returned (.int .i64 (doesM 2 j1.all x1).1) ∧ ∃ j' s', Two w Z p B q1 q2 d1 db1 f fb j' j2 s' ((140000 * i) + 70000)) := fun e Z hp => Two.one HT.out x1 hx1 hK hd hdb hM hp
            clear p10 p11 p12 p13
            obtain ⟨p10, p11, p12, p13, r1⟩ := HX1.out Y1 HY.out.bel
            have DS := does_any HY.out.fs (140000 * i) HY.out.le (by have := hi; omega) HY.out.a1.js HY.out.a1.op.ok HY.out.a1.qp HY.out.a1.qB (by omega) (by omega) (by omega) HY.out.a1.pS HY.out.a1.BS HY.out.a1.qS HY.out.a1.lt x1 hx1 ab1 x1.bs.length cb1 r1
            obtain ⟨E1, hE1⟩ : ∃ E, Hid ((doesM 2 j1.all x1).1 = E) := ⟨_, rfl⟩
            rw [hE1.out] at HST
            rw [hE1.out]
            have eE1 : (E1 != E1) = false := by simp
            clear hd hdb hM hK r1
            go_wp2_with fail
            with_reducible refine DS.mono ?_
            rintro e Z1 hp
            obtain ⟨rfl, k1, s1, hTn⟩ := HST.out e Z1 hp
            have HT1 : Hid (Two w Z1 p B q1 q2 d1 db1 f fb k1 j2 s1 ((140000 * i) + 70000)) := hTn
            clear DS hp hTn HST HY
            clear p10 p11 p12 p13
            have SA := same_any HT1.out.a1.js HT1.out.m1 HT1.out.a1.op.grp.octs
            rw [agr_refl] at SA
            go_wp2_with fail
            with_reducible refine SA.mono ?_
            rintro e V ⟨rfl, hV⟩
            clear SA
            have HV := HT1.out.next hV
            have SB := same_any HV.a2.js HV.m2 HV.a2.op.grp.octs
            rw [agr_refl] at SB
            have HV : Hid (Two w V p B q1 q2 d1 db1 f fb k1 j2 s1 ((140000 * i) + 70000)) := HV
            clear hV
            go_wp2_with fail
            with_reducible refine SB.mono ?_
            rintro e V2 ⟨rfl, hV2⟩
            clear SB
            have HN : Hid (Two w V2 p B q1 q2 d1 db1 f fb k1 j2 s1 (140000 * (i + 1))) := (HV.out.next hV2).more (by omega)
            clear hV2
            go_wp2_with fail
            exact ⟨⟨i + 1, d1, db1, f, fb, k1, j2, s1, by omega, by go_num, rfl, rfl, HN.out⟩, by simp [intOf]; omega⟩
        · have h14' : ¬ x1.kind.tmod 6 < 4 := by rw [Int.tmod_eq_emod_of_nonneg k10.1]; exact h14
          by_cases hlt2 : i < lb
          · have gl2 : (i : Int) < (lb : Int) := by omega
            obtain ⟨b2, off2, x2, ab2, cb2, hm2, rfl, hX⟩ := Ho2.out.gets i hlt2
            have HX2 : Hid (∀ W, Below w.heap.size w W → W.cell? ⟨b2, off2 + i * 4, none⟩ = some (.int .u8 x2.kind) ∧ W.cell? ⟨b2, off2 + i * 4 + 1, none⟩ = some (.int .u8 x2.grp) ∧ W.cell? ⟨b2, off2 + i * 4 + 2, none⟩ = some (.slice ab2 x2.bs.length cb2) ∧ W.cell? ⟨b2, off2 + i * 4 + 3, none⟩ = some (.int .u16 x2.more) ∧ Row W ab2 x2.bs.length x2.bs) := hX
            clear hX
            have hx2 : x2.Ok := (Ho2.out.ok x2 hm2).ok (HL2.out x2 hm2)
            have k20 := hx2.k0
            by_cases h24 : x2.kind % 6 < 4
            · have h24' : x2.kind.tmod 6 < 4 := by rw [Int.tmod_eq_emod_of_nonneg k20.1]; exact h24
              obtain ⟨p10, p11, p12, p13, r1⟩ := HX1.out wr HT.out.bel
              clear p11 p12 p13 r1
              obtain ⟨p20, p21, p22, p23, r2⟩ := HX2.out wr HT.out.bel
              have WD := would_any HT.out.m2 HT.out.a2.op.grp.lens (by omega) (by omega) x2 hx2 ab2 x2.bs.length cb2 r2
              clear r2
              go_wp2_with fail
              with_reducible refine WD.mono ?_
              rintro e Y2 ⟨f1, fb1, rfl, hd, hdb, hM, hK⟩
              clear WD
              have HY : Hid (Two w Y2 p B q1 q2 d db f fb j1 j2 s (140000 * i)) := HT.out.next hK.bel
              have HST : Hid (∀ e Z, KeepPost Y2 p B 6 6 q2 3 1 [q2, q1, p, B] (doesJ 6 3 1 j2 x2 s) e Z → e = .returned (.int .i64 (doesM 3 j2.all x2).1) ∧ ∃ j' s', Two w Z p B q1 q2 d db f1 fb1 j1 j' s' ((140000 * i) + 70000)) := fun e Z hp => Two.two HT.out x2 hx2 hK hd hdb hM hp
              clear p20 p21 p22 p23
              obtain ⟨p20, p21, p22, p23, r2⟩ := HX2.out Y2 HY.out.bel
              have DS := does_any HY.out.fs (140000 * i) HY.out.le (by have := hi; omega) HY.out.a2.js HY.out.a2.op.ok HY.out.a2.qp HY.out.a2.qB (by omega) (by omega) (by omega) HY.out.a2.pS HY.out.a2.BS HY.out.a2.qS HY.out.a2.lt x2 hx2 ab2 x2.bs.length cb2 r2
              obtain ⟨E2, hE2⟩ : ∃ E, Hid ((doesM 3 j2.all x2).1 = E) := ⟨_, rfl⟩
              rw [hE2.out] at HST
              rw [hE2.out]
              have eE2 : (E2 != E2) = false := by simp
              clear hd hdb hM hK r2
              go_wp2_with fail
              with_reducible refine DS.mono ?_
              rintro e Z2 hp
              obtain ⟨rfl, k2, s2, hTn⟩ := HST.out e Z2 hp
              have HT2 : Hid (Two w Z2 p B q1 q2 d db f1 fb1 j1 k2 s2 ((140000 * i) + 70000)) := hTn
              clear DS hp hTn HST HY
              clear p20 p21 p22 p23
              have SA := same_any HT2.out.a1.js HT2.out.m1 HT2.out.a1.op.grp.octs
              rw [agr_refl] at SA
              go_wp2_with fail
              with_reducible refine SA.mono ?_
              rintro e V ⟨rfl, hV⟩
              clear SA
              have HV := HT2.out.next hV
              have SB := same_any HV.a2.js HV.m2 HV.a2.op.grp.octs
              rw [agr_refl] at SB
              have HV : Hid (Two w V p B q1 q2 d db f1 fb1 j1 k2 s2 ((140000 * i) + 70000)) := HV
              clear hV
              go_wp2_with fail
              with_reducible refine SB.mono ?_
              rintro e V2 ⟨rfl, hV2⟩
              clear SB
              have HN : Hid (Two w V2 p B q1 q2 d db f1 fb1 j1 k2 s2 (140000 * (i + 1))) := (HV.out.next hV2).more (by omega)
              clear hV2
              go_wp2_with fail
              exact ⟨⟨i + 1, d, db, f1, fb1, j1, k2, s2, by omega, by go_num, rfl, rfl, HN.out⟩, by simp [intOf]; omega⟩
            · have h24' : ¬ x2.kind.tmod 6 < 4 := by rw [Int.tmod_eq_emod_of_nonneg k20.1]; exact h24
              obtain ⟨p10, p11, p12, p13, r1⟩ := HX1.out wr HT.out.bel
              clear p11 p12 p13 r1
              obtain ⟨p20, p21, p22, p23, r2⟩ := HX2.out wr HT.out.bel
              clear p21 p22 p23 r2
              have SA := same_any HT.out.a1.js HT.out.m1 HT.out.a1.op.grp.octs
              rw [agr_refl] at SA
              go_wp2_with fail
              with_reducible refine SA.mono ?_
              rintro e V ⟨rfl, hV⟩
              clear SA
              have HV := HT.out.next hV
              have SB := same_any HV.a2.js HV.m2 HV.a2.op.grp.octs
              rw [agr_refl] at SB
              have HV : Hid (Two w V p B q1 q2 d db f fb j1 j2 s (140000 * i)) := HV
              clear hV
              go_wp2_with fail
              with_reducible refine SB.mono ?_
              rintro e V2 ⟨rfl, hV2⟩
              clear SB
              have HN : Hid (Two w V2 p B q1 q2 d db f fb j1 j2 s (140000 * (i + 1))) := (HV.out.next hV2).more (by omega)
              clear hV2
              go_wp2_with fail
              exact ⟨⟨i + 1, d, db, f, fb, j1, j2, s, by omega, by go_num, rfl, rfl, HN.out⟩, by simp [intOf]; omega⟩
          · have gl2 : ¬ (i : Int) < (lb : Int) := by omega
            obtain ⟨p10, p11, p12, p13, r1⟩ := HX1.out wr HT.out.bel
            clear p11 p12 p13 r1
            have SA := same_any HT.out.a1.js HT.out.m1 HT.out.a1.op.grp.octs
            rw [agr_refl] at SA
            go_wp2_with fail
            with_reducible refine SA.mono ?_
            rintro e V ⟨rfl, hV⟩
            clear SA
            have HV := HT.out.next hV
            have SB := same_any HV.a2.js HV.m2 HV.a2.op.grp.octs
            rw [agr_refl] at SB
            have HV : Hid (Two w V p B q1 q2 d db f fb j1 j2 s (140000 * i)) := HV
            clear hV
            go_wp2_with fail
            with_reducible refine SB.mono ?_
            rintro e V2 ⟨rfl, hV2⟩
            clear SB
            have HN : Hid (Two w V2 p B q1 q2 d db f fb j1 j2 s (140000 * (i + 1))) := (HV.out.next hV2).more (by omega)
            clear hV2
            go_wp2_with fail
            exact ⟨⟨i + 1, d, db, f, fb, j1, j2, s, by omega, by go_num, rfl, rfl, HN.out⟩, by simp [intOf]; omega⟩
      · have gl1 : ¬ (i : Int) < (la : Int) := by omega
        by_cases hlt2 : i < lb
        · have gl2 : (i : Int) < (lb : Int) := by omega
          obtain ⟨b2, off2, x2, ab2, cb2, hm2, rfl, hX⟩ := Ho2.out.gets i hlt2
          have HX2 : Hid (∀ W, Below w.heap.size w W → W.cell? ⟨b2, off2 + i * 4, none⟩ = some (.int .u8 x2.kind) ∧ W.cell? ⟨b2, off2 + i * 4 + 1, none⟩ = some (.int .u8 x2.grp) ∧ W.cell? ⟨b2, off2 + i * 4 + 2, none⟩ = some (.slice ab2 x2.bs.length cb2) ∧ W.cell? ⟨b2, off2 + i * 4 + 3, none⟩ = some (.int .u16 x2.more) ∧ Row W ab2 x2.bs.length x2.bs) := hX
          clear hX
          have hx2 : x2.Ok := (Ho2.out.ok x2 hm2).ok (HL2.out x2 hm2)
          have k20 := hx2.k0
          by_cases h24 : x2.kind % 6 < 4
          · have h24' : x2.kind.tmod 6 < 4 := by rw [Int.tmod_eq_emod_of_nonneg k20.1]; exact h24
            obtain ⟨p20, p21, p22, p23, r2⟩ := HX2.out wr HT.out.bel
            have WD := would_any HT.out.m2 HT.out.a2.op.grp.lens (by omega) (by omega) x2 hx2 ab2 x2.bs.length cb2 r2
            clear r2
            go_wp2_with fail
            with_reducible refine WD.mono ?_
            rintro e Y2 ⟨f1, fb1, rfl, hd, hdb, hM, hK⟩
            clear WD
            have HY : Hid (Two w Y2 p B q1 q2 d db f fb j1 j2 s (140000 * i)) := HT.out.next hK.bel
            have HST : Hid (∀ e Z, KeepPost Y2 p B 6 6 q2 3 1 [q2, q1, p, B] (doesJ 6 3 1 j2 x2 s) e Z → e = .returned (.int .i64 (doesM 3 j2.all x2).1) ∧ ∃ j' s', Two w Z p B q1 q2 d db f1 fb1 j1 j' s' ((140000 * i) + 70000)) := fun e Z hp => Two.two HT.out x2 hx2 hK hd hdb hM hp
            clear p20 p21 p22 p23
            obtain ⟨p20, p21, p22, p23, r2⟩ := HX2.out Y2 HY.out.bel
            have DS := does_any HY.out.fs (140000 * i) HY.out.le (by have := hi; omega) HY.out.a2.js HY.out.a2.op.ok HY.out.a2.qp HY.out.a2.qB (by omega) (by omega) (by omega) HY.out.a2.pS HY.out.a2.BS HY.out.a2.qS HY.out.a2.lt x2 hx2 ab2 x2.bs.length cb2 r2
            obtain ⟨E2, hE2⟩ : ∃ E, Hid ((doesM 3 j2.all x2).1 = E) := ⟨_, rfl⟩
            rw [hE2.out] at HST
            rw [hE2.out]
            have eE2 : (E2 != E2) = false := by simp
            clear hd hdb hM hK r2
            go_wp2_with fail
            with_reducible refine DS.mono ?_
            rintro e Z2 hp
            obtain ⟨rfl, k2, s2, hTn⟩ := HST.out e Z2 hp
            have HT2 : Hid (Two w Z2 p B q1 q2 d db f1 fb1 j1 k2 s2 ((140000 * i) + 70000)) := hTn
            clear DS hp hTn HST HY
            clear p20 p21 p22 p23
            have SA := same_any HT2.out.a1.js HT2.out.m1 HT2.out.a1.op.grp.octs
            rw [agr_refl] at SA
            go_wp2_with fail
            with_reducible refine SA.mono ?_
            rintro e V ⟨rfl, hV⟩
            clear SA
            have HV := HT2.out.next hV
            have SB := same_any HV.a2.js HV.m2 HV.a2.op.grp.octs
            rw [agr_refl] at SB
            have HV : Hid (Two w V p B q1 q2 d db f1 fb1 j1 k2 s2 ((140000 * i) + 70000)) := HV
            clear hV
            go_wp2_with fail
            with_reducible refine SB.mono ?_
            rintro e V2 ⟨rfl, hV2⟩
            clear SB
            have HN : Hid (Two w V2 p B q1 q2 d db f1 fb1 j1 k2 s2 (140000 * (i + 1))) := (HV.out.next hV2).more (by omega)
            clear hV2
            go_wp2_with fail
            exact ⟨⟨i + 1, d, db, f1, fb1, j1, k2, s2, by omega, by go_num, rfl, rfl, HN.out⟩, by simp [intOf]; omega⟩
          · have h24' : ¬ x2.kind.tmod 6 < 4 := by rw [Int.tmod_eq_emod_of_nonneg k20.1]; exact h24
            obtain ⟨p20, p21, p22, p23, r2⟩ := HX2.out wr HT.out.bel
            clear p21 p22 p23 r2
            have SA := same_any HT.out.a1.js HT.out.m1 HT.out.a1.op.grp.octs
            rw [agr_refl] at SA
            go_wp2_with fail
            with_reducible refine SA.mono ?_
            rintro e V ⟨rfl, hV⟩
            clear SA
            have HV := HT.out.next hV
            have SB := same_any HV.a2.js HV.m2 HV.a2.op.grp.octs
            rw [agr_refl] at SB
            have HV : Hid (Two w V p B q1 q2 d db f fb j1 j2 s (140000 * i)) := HV
            clear hV
            go_wp2_with fail
            with_reducible refine SB.mono ?_
            rintro e V2 ⟨rfl, hV2⟩
            clear SB
            have HN : Hid (Two w V2 p B q1 q2 d db f fb j1 j2 s (140000 * (i + 1))) := (HV.out.next hV2).more (by omega)
            clear hV2
            go_wp2_with fail
            exact ⟨⟨i + 1, d, db, f, fb, j1, j2, s, by omega, by go_num, rfl, rfl, HN.out⟩, by simp [intOf]; omega⟩
        · have gl2 : ¬ (i : Int) < (lb : Int) := by omega
          exact absurd hend (by omega)
    · have gl1 : ¬ (i : Int) < (la : Int) := by omega
      have gl2 : ¬ (i : Int) < (lb : Int) := by omega
      have hlT := HT.out.lt
      have hlpB : ∀ x ∈ [p, B], x < wr.heap.size := fun x hx => hlT x (by simp at hx ⊢; omega)
      have OA := open_ok HT.out.fs HT.out.of 0 2 (by omega) (by omega) [p, B] hlpB
      rw [show ((0 : Nat) : Int) = 0 from rfl, show ((2 : Nat) : Int) = 2 from rfl, show 2 / 2 = 1 from rfl, ] at OA
      have HlpB : Hid (∀ x ∈ [p, B], x < wr.heap.size) := hlpB
      clear hlT hlpB
      go_wp2_with fail
      with_reducible refine OA.mono ?_
      rintro e V ⟨⟨q3, rfl, hq3, hJ3⟩, hbV⟩
      clear OA
      have T1 := HT.out.next hbV
      have HJ3 : Hid (IsJ V [q3, p, B] q3 p 0 1 (opn s.cs 0 1)) := hJ3
      have HT1 : Hid (Two w V p B q1 q2 d db f fb j1 j2 s (140000 * i)) := T1
      have OB := open_ok T1.fs T1.of 3 3 (by omega) (by omega) [p, B] (fun x hx => Nat.lt_of_lt_of_le (HlpB.out x hx) hbV.size)
      rw [show ((3 : Nat) : Int) = 3 from rfl, show 3 / 2 = 1 from rfl] at OB
      clear T1 hJ3 hbV
      go_wp2_with fail
      with_reducible refine OB.mono ?_
      rintro e V2 ⟨⟨q4, rfl, hq4, hJ4⟩, hb4⟩
      clear OB
      have HT2 : Hid (Two w V2 p B q1 q2 d db f fb j1 j2 s (140000 * i)) := HT1.out.next hb4
      have HJ3b : Hid (IsJ V2 [q3, p, B] q3 p 0 1 (opn s.cs 0 1)) := HJ3.out.next hb4
      have HJ4 : Hid (IsJ V2 [q4, p, B] q4 p 3 1 (opn s.cs 3 1)) := hJ4
      have RO := ropened_any HT2.out.m1
      clear hJ4 hb4 HJ3 HT1
      go_wp2_with fail
      with_reducible refine RO.mono ?_
      rintro e V3 ⟨rfl, hM3, hK3⟩
      clear RO
      have HT3 : Hid (Two w V3 p B q1 q2 d db f fb j1 j2 s (140000 * i)) := HT2.out.next hK3.bel
      have HJ4b : Hid (IsJ V3 [q4, p, B] q4 p 3 1 (opn s.cs 3 1)) := HJ4.out.next hK3.bel
      have SA := same_any (HJ3b.out.next hK3.bel) hM3 (by rw [← HT.out.a1.op.again]; exact (opn_drop HT.out.fs.oct 0 1).2.octs)
      rw [HT.out.a1.op.again, agr_refl] at SA
      clear hM3 hK3
      go_wp2_with fail
      with_reducible refine SA.mono ?_
      rintro e V4 ⟨rfl, hb5⟩
      clear SA
      have HT4 : Hid (Two w V4 p B q1 q2 d db f fb j1 j2 s (140000 * i)) := HT3.out.next hb5
      have HJ4c : Hid (IsJ V4 [q4, p, B] q4 p 3 1 (opn s.cs 3 1)) := HJ4b.out.next hb5
      have RP := ropened_any HT4.out.m2
      clear hb5
      go_wp2_with fail
      with_reducible refine RP.mono ?_
      rintro e V5 ⟨rfl, hM5, hK5⟩
      clear RP
      have HT5 : Hid (Two w V5 p B q1 q2 d db f fb j1 j2 s (140000 * i)) := HT4.out.next hK5.bel
      have SB := same_any (HJ4c.out.next hK5.bel) hM5 (by rw [← HT.out.a2.op.again]; exact (opn_drop HT.out.fs.oct 3 1).2.octs)
      rw [HT.out.a2.op.again, agr_refl] at SB
      clear hM5 hK5
      go_wp2_with fail
      with_reducible refine SB.mono ?_
      rintro e V6 ⟨rfl, hb6⟩
      clear SB
      have HB6 : Hid (Below w.heap.size w V6) := (HT5.out.next hb6).bel
      have WK := works_any V6
      clear hb6
      go_wp2_with fail
      with_reducible refine WK.mono ?_
      rintro e V7 ⟨rfl, hb7⟩
      clear WK
      have HB7 : Hid (Below w.heap.size w V7) := Below.andThen HB6.out hb7
      clear hb7
      go_wp2_with fail
      go_ret
      exact ⟨rfl, HB7.out⟩
#print axioms journalTwo_any
end Go.Proofs.Ytgpbmccjcjoijaa
namespace Go.Proofs.Ytgpbmccjcjoijaa
open Go.RowKit

set_option linter.unusedSimpArgs false in
set_option maxHeartbeats 16000000 in
set_option maxRecDepth 100000 in
theorem journalPlays_any {w : World} (c : Int) {a : Option Addr} {la : Nat} {l1 : List Opx} (o1 : IsOx w a la l1) (ca : Nat) (h1 : la ≤ maxLen) :
    Calls Try.prog 3 #[.int .i64 c, .slice a la ca] w fun e w' => e = .returned (.bool true) ∧ Below w.heap.size w w' := by
  have LA := large_any o1 ca h1
  have WK := works_any w
  have Ho1 : Hid (IsOx w a la l1) := o1
  clear o1
  by_cases hc2 : c < 2
  · clear LA
    go_enter Try.func3, Try.ntmps3
    go_wp2_with fail
    with_reducible refine WK.mono ?_
    rintro e Z ⟨rfl, hZ⟩
    clear WK
    go_wp2_with fail
    go_ret
    exact ⟨rfl, hZ⟩
  by_cases hc8 : c > 8
  · clear LA
    go_enter Try.func3, Try.ntmps3
    go_wp2_with fail
    with_reducible refine WK.mono ?_
    rintro e Z ⟨rfl, hZ⟩
    clear WK
    go_wp2_with fail
    go_ret
    exact ⟨rfl, hZ⟩
  obtain ⟨count, rfl⟩ := Int.eq_ofNat_of_zero_le (show 0 ≤ c by omega)
  go_enter Try.func3, Try.ntmps3
  go_wp2_with fail
  with_reducible refine LA.mono ?_
  rintro e w ⟨r1, rfl, hr1, rfl⟩
  clear LA
  cases r1 with
  | true =>
    clear hr1
    go_wp2_with fail
    with_reducible refine WK.mono ?_
    rintro e Z ⟨rfl, hZ⟩
    clear WK
    go_wp2_with fail
    go_ret
    exact ⟨rfl, hZ⟩
  | false =>
  obtain ⟨hla, hl1⟩ := hr1 rfl
  have HL1 : Hid (∀ x ∈ l1, x.bs.length ≤ 20000) := hl1
  have BG := begun_any count (by omega) w
  have n2 : 2 ≤ count := by omega
  have n8 : count ≤ 8 := by omega
  clear hr1 hl1 WK
  go_wp2_with fail
  with_reducible refine BG.mono ?_
  rintro e U ⟨⟨p, B, rfl, hp, hB, hF⟩, hb⟩
  clear BG
  have HF : Hid (IsS U p B (count + 2) (count + 2) (begS count)) := hF
  have HU : Hid (Below w.heap.size w U) := hb
  have hlt := hF.lt
  have OP := open_ok hF rfl 1 count n2 (by omega) [p, B] (by simp; omega)
  rw [show ((1 : Nat) : Int) = 1 from rfl] at OP
  clear hF hb
  go_wp2_with fail
  with_reducible refine OP.mono ?_
  rintro e V ⟨⟨q, rfl, hq, hJ⟩, hbV⟩
  clear OP
  have HJ : Hid (IsJ V [q, p, B] q p 1 (count / 2) (opn (begS count).cs 1 (count / 2))) := hJ
  have HbV : Hid (Below U.heap.size U V) := hbV
  have ql : q < V.heap.size := by obtain ⟨_, h, _⟩ := hJ; exact lt_of_heap h
  have hUV := hbV.size
  have RN := rnew_any count V
  clear hJ hbV
  go_wp2_with fail
  with_reducible refine RN.mono ?_
  rintro e X ⟨rfl, hM1, hK1⟩
  clear RN
  have HT0 : Hid (One w X p B q (V.heap.size + 1) V.heap.size count (opn (begS count).cs 1 (count / 2)) (opn (begS count).cs 1 (count / 2)).all (begS count) (2 + 70000 * 0) ∧ (opn (begS count).cs 1 (count / 2)).cut = false ∧ (begS count).of = false ∧ (begS count).ar = false) := by
    have w1 := HU.out.size
    have o1 := Go.Proofs.Ytgpbmccjcjoijaa.opened (first := 1) (count := count) (n := count + 2) (s := begS count) HF.out.oct HF.out.len (by omega) n2
    have hJ := Jat.opened HF.out HbV.out hq HJ.out n2 (by omega) (by simp) (by simp) (by simp; omega)
    refine ⟨⟨Below.andThen (Below.andThen HU.out HbV.out) hK1.bel, (HF.out.next HbV.out).next hK1.bel, ⟨by show (0 : Int) ≤ 2; decide, by show (2 : Int) ≤ _; decide, by show (0 : Int) ≤ 0; decide, by show (0 : Int) < _; decide⟩, hJ.next hK1.bel, ?_, by simp; omega, by simp; omega, Away.refl _ _ _, by omega⟩, o1.2, rfl, rfl⟩
    rw [show (opn (begS count).cs 1 (count / 2)).all = all0 from beg_blank count (count / 2) (by omega)]
    exact hM1
  clear HF HU HJ HbV hM1 hK1
  generalize (opn (begS count).cs 1 (count / 2)) = J1 at *
  generalize begS count = S0 at *
  generalize V.heap.size + 1 = D0 at *
  generalize V.heap.size = E0 at *
  go_wp2_with fail
  go_loopw [6, 8, 9] (fun vj vm vi wr => ∃ (i q d db : Nat) (j : JS) (s : FS), i ≤ la ∧ vi = .int .i64 i ∧ vj = .pointer (some ⟨q, 0, none⟩) ∧ vm = .pointer (some ⟨d, 0, none⟩) ∧ One w wr p B q d db count j j.all s (2 + 70000 * i) ∧ j.cut = false ∧ s.of = false ∧ s.ar = false) (fun _ _ vi _ => la - (intOf vi).toNat)
  case atStart => exact ⟨0, q, D0, E0, J1, S0, by omega, rfl, rfl, rfl, HT0.out⟩
  case round =>
    clear HT0 ql
    obtain ⟨i, q, d, db, j, s, hi, rfl, rfl, rfl, hT, hcut, hof, har⟩ := hrel
    have HT : Hid (One w wr p B q d db count j j.all s (2 + 70000 * i)) := hT
    clear hT
    have gi : (0 : Int) ≤ i := by omega
    by_cases hlt1 : i < la
    · have gl1 : (i : Int) < (la : Int) := by omega
      obtain ⟨b1, off1, x, ab, cb, hm1, rfl, hX⟩ := Ho1.out.gets i hlt1
      have hx : x.Ok := (Ho1.out.ok x hm1).ok (HL1.out x hm1)
      have k0 := hx.k0
      obtain ⟨p0, p1, p2, p3, r⟩ := hX wr HT.out.bel
      have HR : Hid (Row wr ab x.bs.length x.bs) := r
      have HO : Hid (0 < x.bs.length → ∀ b off, ab = some ⟨b, off, none⟩ → b < w.heap.size) := fun hp b off e => (hX w (Below.refl _ _)).2.2.2.2.old hp b off e
      clear hX r
      have bX : Below wr.heap.size wr (wr.alloc (.cells #[.int .u8 x.kind, .int .u8 x.grp, .slice ab x.bs.length cb, .int .u16 x.more] 36)) := Below.al (Below.refl _ _) _
      have hcX : (wr.alloc (.cells #[.int .u8 x.kind, .int .u8 x.grp, .slice ab x.bs.length cb, .int .u16 x.more] 36)).heap[wr.heap.size]? = some (.cells #[.int .u8 x.kind, .int .u8 x.grp, .slice ab x.bs.length cb, .int .u16 x.more] 36 (0, 0)) := heap_alloc_new wr _
      have x0 : (wr.alloc (.cells #[.int .u8 x.kind, .int .u8 x.grp, .slice ab x.bs.length cb, .int .u16 x.more] 36)).cell? ⟨wr.heap.size, 0, none⟩ = some (.int .u8 x.kind) := by rw [cell_of_row _ _ _ _ _ _ hcX]; rfl
      have x1 : (wr.alloc (.cells #[.int .u8 x.kind, .int .u8 x.grp, .slice ab x.bs.length cb, .int .u16 x.more] 36)).cell? ⟨wr.heap.size, 1, none⟩ = some (.int .u8 x.grp) := by rw [cell_of_row _ _ _ _ _ _ hcX]; rfl
      have x2 : (wr.alloc (.cells #[.int .u8 x.kind, .int .u8 x.grp, .slice ab x.bs.length cb, .int .u16 x.more] 36)).cell? ⟨wr.heap.size, 2, none⟩ = some (.slice ab x.bs.length cb) := by rw [cell_of_row _ _ _ _ _ _ hcX]; rfl
      have x3 : (wr.alloc (.cells #[.int .u8 x.kind, .int .u8 x.grp, .slice ab x.bs.length cb, .int .u16 x.more] 36)).cell? ⟨wr.heap.size, 3, none⟩ = some (.int .u16 x.more) := by rw [cell_of_row _ _ _ _ _ _ hcX]; rfl
      have HX : Hid (One w (wr.alloc (.cells #[.int .u8 x.kind, .int .u8 x.grp, .slice ab x.bs.length cb, .int .u16 x.more] 36)) p B q d db count j j.all s (2 + 70000 * i)) := HT.out.next bX
      have HRX : Hid (Row (wr.alloc (.cells #[.int .u8 x.kind, .int .u8 x.grp, .slice ab x.bs.length cb, .int .u16 x.more] 36)) ab x.bs.length x.bs) := HR.out.next bX
      have HNl : Hid (wr.heap.size < (wr.alloc (.cells #[.int .u8 x.kind, .int .u8 x.grp, .slice ab x.bs.length cb, .int .u16 x.more] 36)).heap.size) := by show _ < _; rw [World.size_alloc]; omega
      have HNn : Hid (wr.heap.size ∉ [p, B, q] ∧ wr.heap.size ≠ db) := ⟨fun hm => absurd (HT.out.lt _ hm) (Nat.lt_irrefl _), fun e => absurd (e ▸ lt_of_heap HT.out.ms.row) (Nat.lt_irrefl _)⟩
      obtain ⟨E, hE⟩ : ∃ E, Hid ((doesM count j.all x).1 = E) := ⟨_, rfl⟩
      clear bX hcX
      by_cases h3 : x.kind % 6 = 3
      · have h3' : x.kind.tmod 6 = 3 := by rw [Int.tmod_eq_emod_of_nonneg k0.1]; exact h3
        have RA0 : Hid (∀ W, Below (wr.alloc (.cells #[.int .u8 x.kind, .int .u8 x.grp, .slice ab x.bs.length cb, .int .u16 x.more] 36)).heap.size (wr.alloc (.cells #[.int .u8 x.kind, .int .u8 x.grp, .slice ab x.bs.length cb, .int .u16 x.more] 36)) W → Calls Try.prog 13 #[.pointer (some ⟨q, 0, none⟩), .int .u8 x.grp] W fun e w' => KeepPost W p B (count + 2) (count + 2) q 1 (count / 2) [q, p, B] (doesJ (count + 2) 1 (count / 2) j x s) e w') := fun W hW => restore_both (HX.out.next hW).fs _ HX.out.le (by omega) (HX.out.next hW).a (by omega) x hx h3
        have E1 : Hid ((doesJ (count + 2) 1 (count / 2) j x s).1 = E) := by
          show _ = _
          rw [← hE.out]
          rcases doesJ_res (count := count) rfl HX.out.a.op hcut hof x hx with h | ⟨_, _, _, _, _, _, h⟩
          · exact h.1
          · rw [har] at h; cases h
        have eE : (E != E) = false := by simp
        go_wp2_with fail
        clear p0 p1 p2 p3
        generalize (wr.alloc (.cells #[.int .u8 x.kind, .int .u8 x.grp, .slice ab x.bs.length cb, .int .u16 x.more] 36)) = X at *
        have RA := RA0.out X.drew ((Kp.refl [] X).drew).bel
        have nN := HNn.out.1
        have nNd : wr.heap.size ∉ [db] := by simpa using HNn.out.2
        refine wp_region_held_drew (S := fun y => y.cell? ⟨wr.heap.size, 1, none⟩ = some (.int .u8 x.grp)) (by kernel_rfl) (x1) (fun hHeld => ?_)
        refine wpAnyH_take (i := 0) (v := (.pointer (some ⟨q, 0, none⟩))) rfl (by kernel_rfl) (by kernel_rfl) (by kernel_rfl) (fun _ _ _ h => h) (Or.inl ⟨by rfl, ?_⟩) (by assumption) ?_
        · intro w9 hSw
          try dsimp only at hSw
          go_simp
          all_goals try decide
          all_goals try assumption
          all_goals try omega
        try simp only [Act.put, List.getElem_toArray, List.getElem_cons_succ, List.getElem_cons_zero, List.setIfInBounds_toArray, List.set_cons_zero, List.set_cons_succ]
        refine wpAnyH_take (i := 1) (v := (.pointer (some ⟨wr.heap.size, 1, none⟩))) rfl (by kernel_rfl) (by kernel_rfl) (by kernel_rfl) (fun _ _ _ h => h) (Or.inl ⟨by rfl, ?_⟩) (by assumption) ?_
        · intro w9 hSw
          try dsimp only at hSw
          go_simp
          all_goals try decide
          all_goals try assumption
          all_goals try omega
        try simp only [Act.put, List.getElem_toArray, List.getElem_cons_succ, List.getElem_cons_zero, List.setIfInBounds_toArray, List.set_cons_zero, List.set_cons_succ]
        refine wpAnyH_take (i := 2) (v := (.int .u8 x.grp)) rfl (by kernel_rfl) (by kernel_rfl) (by kernel_rfl) (fun _ _ _ h => h) (Or.inl ⟨by rfl, ?_⟩) (by assumption) ?_
        · intro w9 hSw
          try dsimp only at hSw
          go_simp
          all_goals try decide
          all_goals try assumption
          all_goals try omega
        try simp only [Act.put, List.getElem_toArray, List.getElem_cons_succ, List.getElem_cons_zero, List.setIfInBounds_toArray, List.set_cons_zero, List.set_cons_succ]
        refine wpAnyH_take (i := 4) (v := (.pointer (some ⟨d, 0, none⟩))) rfl (by kernel_rfl) (by kernel_rfl) (by kernel_rfl) (fun _ _ _ h => h) (Or.inl ⟨by rfl, ?_⟩) (by assumption) ?_
        · intro w9 hSw
          try dsimp only at hSw
          go_simp
          all_goals try decide
          all_goals try assumption
          all_goals try omega
        try simp only [Act.put, List.getElem_toArray, List.getElem_cons_succ, List.getElem_cons_zero, List.setIfInBounds_toArray, List.set_cons_zero, List.set_cons_succ]
        refine wpAnyH_take (i := 5) (v := (.pointer (some ⟨wr.heap.size, 1, none⟩))) rfl (by kernel_rfl) (by kernel_rfl) (by kernel_rfl) (fun _ _ _ h => h) (Or.inl ⟨by rfl, ?_⟩) (by assumption) ?_
        · intro w9 hSw
          try dsimp only at hSw
          go_simp
          all_goals try decide
          all_goals try assumption
          all_goals try omega
        try simp only [Act.put, List.getElem_toArray, List.getElem_cons_succ, List.getElem_cons_zero, List.setIfInBounds_toArray, List.set_cons_zero, List.set_cons_succ]
        refine wpAnyH_take (i := 6) (v := (.int .u8 x.grp)) rfl (by kernel_rfl) (by kernel_rfl) (by kernel_rfl) (fun _ _ _ h => h) (Or.inl ⟨by rfl, ?_⟩) (by assumption) ?_
        · intro w9 hSw
          try dsimp only at hSw
          go_simp
          all_goals try decide
          all_goals try assumption
          all_goals try omega
        try simp only [Act.put, List.getElem_toArray, List.getElem_cons_succ, List.getElem_cons_zero, List.setIfInBounds_toArray, List.set_cons_zero, List.set_cons_succ]
        refine wpAnyH_ready (rs := [3]) (by kernel_rfl) (by simp) ?_
        refine AllReadyH.cons rfl (fun K' hK => ?_) AllReadyH.nil
        rw [if_pos (by rfl)]
        simp only [List.getElem_toArray, List.getElem_cons_succ, List.getElem_cons_zero]
        go_wp2_with fail
        refine (RA).mono ?_
        rintro e1 U h1
        have KU : Kp [p, B, q] X U := ((Kp.refl _ _).drew).trans h1.2.2.2
        have RB := rrestore_both ((HX.out.ms.next ((Kp.refl [] X).drew).bel).kp h1.2.2.2 HX.out.nd.1 HX.out.nd.2) HX.out.a.op.grp x hx h3
        have HH1 : Hid (KeepPost X.drew p B (count + 2) (count + 2) q 1 (count / 2) [q, p, B] (doesJ (count + 2) 1 (count / 2) j x s) e1 U) := h1
        obtain ⟨e1eq, _⟩ := h1
        rw [E1.out] at e1eq
        subst e1eq
        try go_wp2_with fail
        refine hK.out _ _ (KU.cell x1 nN) (fun hHeld => ?_)
        clear hK K'
        try simp only [Act.put, List.getElem_toArray, List.getElem_cons_succ, List.getElem_cons_zero, List.setIfInBounds_toArray, List.set_cons_zero, List.set_cons_succ]
        refine wpAnyH_ready (rs := [7]) (by kernel_rfl) (by simp) ?_
        refine AllReadyH.cons rfl (fun K' hK => ?_) AllReadyH.nil
        rw [if_pos (by rfl)]
        simp only [List.getElem_toArray, List.getElem_cons_succ, List.getElem_cons_zero]
        go_wp2_with fail
        refine (RB).mono ?_
        rintro e2 V h2
        obtain ⟨_, e2, j2, s2, hN, hc2, ho2, ha2⟩ := One.step HX.out hcut hof har (by omega) x hx ((Kp.refl [] X).drew).bel HH1.out (Below.refl _ _) h2
        have HN : Hid (One w V p B q d db count j2 j2.all s2 (2 + 70000 * i + 70000)) := hN
        have HC : Hid (j2.cut = false ∧ s2.of = false ∧ s2.ar = false) := ⟨hc2, ho2, ha2⟩
        rw [hE.out] at e2
        subst e2
        try go_wp2_with fail
        refine hK.out _ _ ((KU.cell x1 nN |> fun h => (h2.2.2).cell h nNd)) (fun hHeld => ?_)
        clear hK K'
        try simp only [Act.put, List.getElem_toArray, List.getElem_cons_succ, List.getElem_cons_zero, List.setIfInBounds_toArray, List.set_cons_zero, List.set_cons_succ]
        refine wpAnyH_take (i := 8) (v := (.bool false)) rfl (by kernel_rfl) (by kernel_rfl) (by kernel_rfl) (fun _ _ _ h => h) (Or.inl ⟨by rfl, ?_⟩) (by assumption) ?_
        · intro w9 hSw
          try dsimp only at hSw
          go_simp
          all_goals try decide
          all_goals try assumption
          all_goals try omega
        try simp only [Act.put, List.getElem_toArray, List.getElem_cons_succ, List.getElem_cons_zero, List.setIfInBounds_toArray, List.set_cons_zero, List.set_cons_succ]
        refine wpAnyH_done (by kernel_rfl) ?_ _
        clear x0 x1 x2 x3
        have SA := same_any HN.out.a.js HN.out.ms HN.out.a.op.grp.octs
        rw [agr_refl] at SA
        go_wp2_with fail
        with_reducible refine SA.mono ?_
        rintro e V9 ⟨rfl, hV9⟩
        clear SA
        have HN9 : Hid (One w V9 p B q d db count j2 j2.all s2 (2 + 70000 * (i + 1))) := (HN.out.next hV9).more (by omega)
        clear hV9
        go_wp2_with fail
        exact ⟨⟨i + 1, q, d, db, j2, s2, by omega, by go_num, rfl, rfl, HN9.out, HC.out.1, HC.out.2.1, HC.out.2.2⟩, by simp [intOf]; omega⟩
      · have h3' : ¬ x.kind.tmod 6 = 3 := by rw [Int.tmod_eq_emod_of_nonneg k0.1]; exact h3
        by_cases h45 : x.kind % 6 = 4 ∨ x.kind % 6 = 5
        · rcases h45 with h4 | h5
          · have OP := open_ok HX.out.fs hof 1 count n2 (by omega) [p, B] (fun y hy => HX.out.lt y (by simp at hy ⊢; omega))
            rw [show ((1 : Nat) : Int) = 1 from rfl] at OP
            have h4' : x.kind.tmod 6 = 4 := by rw [Int.tmod_eq_emod_of_nonneg k0.1]; exact h4
            go_wp2_with fail
            clear p0 p1 p2 p3
            generalize (wr.alloc (.cells #[.int .u8 x.kind, .int .u8 x.grp, .slice ab x.bs.length cb, .int .u16 x.more] 36)) = X at *
            with_reducible refine OP.mono ?_
            rintro e V ⟨⟨q2, rfl, hq2, hJ2⟩, hbV⟩
            clear OP
            have HJ2 : Hid (IsJ V [q2, p, B] q2 p 1 (count / 2) (opn s.cs 1 (count / 2))) := hJ2
            have HbV : Hid (Below X.heap.size X V) := hbV
            have RO := ropened_any (HX.out.next hbV).ms
            clear hJ2 hbV x0 x1 x2 x3
            go_wp2_with fail
            with_reducible refine RO.mono ?_
            rintro e Z ⟨rfl, hM2, hK2⟩
            clear RO
            obtain ⟨hN, hcut2⟩ := HX.out.reopen n2 HbV.out hq2 HJ2.out hK2.bel hM2 (Nat.le_succ _) (Nat.le_refl _)
            have HN : Hid (One w Z p B q2 (V.heap.size + 1) V.heap.size count (opn s.cs 1 (count / 2)) (opn s.cs 1 (count / 2)).all s (2 + 70000 * i)) := hN
            have HC : Hid ((opn s.cs 1 (count / 2)).cut = false ∧ s.of = false ∧ s.ar = false) := ⟨hcut2, hof, har⟩
            clear hM2 hK2 hN hcut2
            have SA := same_any HN.out.a.js HN.out.ms HN.out.a.op.grp.octs
            rw [agr_refl] at SA
            go_wp2_with fail
            with_reducible refine SA.mono ?_
            rintro e V9 ⟨rfl, hV9⟩
            clear SA
            have HN9 : Hid (One w V9 p B q2 (V.heap.size + 1) V.heap.size count (opn s.cs 1 (count / 2)) (opn s.cs 1 (count / 2)).all s (2 + 70000 * (i + 1))) := (HN.out.next hV9).more (by omega)
            clear hV9
            go_wp2_with fail
            exact ⟨⟨i + 1, q2, (V.heap.size + 1), V.heap.size, (opn s.cs 1 (count / 2)), s, by omega, by go_num, rfl, rfl, HN9.out, HC.out.1, HC.out.2.1, HC.out.2.2⟩, by simp [intOf]; omega⟩
          · have OP := open_ok HX.out.fs hof 1 count n2 (by omega) [p, B] (fun y hy => HX.out.lt y (by simp at hy ⊢; omega))
            rw [show ((1 : Nat) : Int) = 1 from rfl] at OP
            have h4' : ¬ x.kind.tmod 6 = 4 := by rw [Int.tmod_eq_emod_of_nonneg k0.1]; omega
            have h5' : x.kind.tmod 6 = 5 := by rw [Int.tmod_eq_emod_of_nonneg k0.1]; exact h5
            go_wp2_with fail
            clear p0 p1 p2 p3
            generalize (wr.alloc (.cells #[.int .u8 x.kind, .int .u8 x.grp, .slice ab x.bs.length cb, .int .u16 x.more] 36)) = X at *
            with_reducible refine OP.mono ?_
            rintro e V ⟨⟨q2, rfl, hq2, hJ2⟩, hbV⟩
            clear OP
            have HJ2 : Hid (IsJ V [q2, p, B] q2 p 1 (count / 2) (opn s.cs 1 (count / 2))) := hJ2
            have HbV : Hid (Below X.heap.size X V) := hbV
            have RO := ropened_any (HX.out.next hbV).ms
            clear hJ2 hbV x0 x1 x2 x3
            go_wp2_with fail
            with_reducible refine RO.mono ?_
            rintro e Z ⟨rfl, hM2, hK2⟩
            clear RO
            obtain ⟨hN, hcut2⟩ := HX.out.reopen n2 HbV.out hq2 HJ2.out hK2.bel hM2 (Nat.le_succ _) (Nat.le_refl _)
            have HN : Hid (One w Z p B q2 (V.heap.size + 1) V.heap.size count (opn s.cs 1 (count / 2)) (opn s.cs 1 (count / 2)).all s (2 + 70000 * i)) := hN
            have HC : Hid ((opn s.cs 1 (count / 2)).cut = false ∧ s.of = false ∧ s.ar = false) := ⟨hcut2, hof, har⟩
            clear hM2 hK2 hN hcut2
            have SA := same_any HN.out.a.js HN.out.ms HN.out.a.op.grp.octs
            rw [agr_refl] at SA
            go_wp2_with fail
            with_reducible refine SA.mono ?_
            rintro e V9 ⟨rfl, hV9⟩
            clear SA
            have HN9 : Hid (One w V9 p B q2 (V.heap.size + 1) V.heap.size count (opn s.cs 1 (count / 2)) (opn s.cs 1 (count / 2)).all s (2 + 70000 * (i + 1))) := (HN.out.next hV9).more (by omega)
            clear hV9
            go_wp2_with fail
            exact ⟨⟨i + 1, q2, (V.heap.size + 1), V.heap.size, (opn s.cs 1 (count / 2)), s, by omega, by go_num, rfl, rfl, HN9.out, HC.out.1, HC.out.2.1, HC.out.2.2⟩, by simp [intOf]; omega⟩
        · have h4' : ¬ x.kind.tmod 6 = 4 := by rw [Int.tmod_eq_emod_of_nonneg k0.1]; omega
          have h5' : ¬ x.kind.tmod 6 = 5 := by rw [Int.tmod_eq_emod_of_nonneg k0.1]; omega
          have BY := opbytes_any x hx ab x.bs.length cb HRX.out
          have E1 : Hid ((doesJ (count + 2) 1 (count / 2) j x s).1 = E) := by
            show _ = _
            rw [← hE.out]
            rcases doesJ_res (count := count) rfl HX.out.a.op hcut hof x hx with h | ⟨_, _, _, _, _, _, h⟩
            · exact h.1
            · rw [har] at h; cases h
          have eE : (E != E) = false := by simp
          have s1 : ((strOfNums x.all).toList == (strOfNums x.all).toList) = true := by simp
          have s2 : ((strOfNums x.all).toList != (strOfNums x.all).toList) = false := by simp
          go_wp2_with fail
          clear p0 p1 p2 p3
          generalize (wr.alloc (.cells #[.int .u8 x.kind, .int .u8 x.grp, .slice ab x.bs.length cb, .int .u16 x.more] 36)) = X at *
          with_reducible refine BY.mono ?_
          rintro e Y ⟨⟨a1, c1, rfl, hT1⟩, hbY⟩
          clear BY
          have HbY : Hid (Below X.heap.size X Y) := hbY
          have KY : Kp [] X Y := Kp.of hbY
          have x0 := KY.cell x0 (by simp)
          have x1 := KY.cell x1 (by simp)
          have x2 := KY.cell x2 (by simp)
          have x3 := KY.cell x3 (by simp)
          have HNlY : Hid (wr.heap.size < Y.heap.size) := Nat.lt_of_lt_of_le HNl.out hbY.size
          have HrY : Hid (0 < x.all.length → ∀ b off, a1 = some ⟨b, off, none⟩ → b ∉ [p, B, q] ∧ b ∉ [q, p, B]) := fun hp b off e => by
            obtain ⟨g9, e9, h2, _⟩ := hT1.own hp
            rw [e9] at e
            cases e
            exact ⟨fun hm => absurd (HX.out.lt _ hm) (by omega), fun hm => absurd (HX.out.a.lt _ hm) (by omega)⟩
          have HRb0 : Hid (Row Y a1 x.all.length x.all) := hT1.row
          have HRY : Hid (Row Y ab x.bs.length x.bs) := HRX.out.next hbY
          have ST := store_both (HX.out.next hbY).fs _ HX.out.le (by omega) (HX.out.next hbY).a (by omega) (by omega) x hx h3 a1 c1 hT1.row (fun hp b off e => (HrY.out hp b off e).2)
          clear hT1 hbY KY
          go_wp2_with fail
          with_reducible refine ST.mono ?_
          rintro e1 U h1
          clear ST
          have HH1 : Hid (KeepPost Y p B (count + 2) (count + 2) q 1 (count / 2) [q, p, B] (doesJ (count + 2) 1 (count / 2) j x s) e1 U) := h1
          have KU := h1.2.2.2
          have HMU : Hid (IsM U d db count j.all) := (HX.out.next HbY.out).ms.kp KU HX.out.nd.1 HX.out.nd.2
          have HRb : Hid (Row U a1 x.all.length x.all) := HRb0.out.kp' KU (fun hp b off e => (HrY.out hp b off e).1)
          have HRU : Hid (Row U ab x.bs.length x.bs) := HRY.out.kp' KU (fun hp b off e hm => absurd (HT.out.new _ hm) (by have := HO.out hp b off e; omega))
          have x0 := KU.cell x0 HNn.out.1
          have x1 := KU.cell x1 HNn.out.1
          have x2 := KU.cell x2 HNn.out.1
          have x3 := KU.cell x3 HNn.out.1
          obtain ⟨e1eq, _⟩ := h1
          rw [E1.out] at e1eq
          subst e1eq
          have nNd : wr.heap.size ∉ [db] := by simpa using HNn.out.2
          have BY2 := opbytes_any x hx ab x.bs.length cb (HRU.out.drew)
          clear KU
          go_wp2_with fail
          refine wp_region_held_drew (S := fun y => (y.cell? ⟨wr.heap.size, 0, none⟩ = some (.int .u8 x.kind) ∧ y.cell? ⟨wr.heap.size, 1, none⟩ = some (.int .u8 x.grp) ∧ y.cell? ⟨wr.heap.size, 2, none⟩ = some (.slice ab x.bs.length cb) ∧ y.cell? ⟨wr.heap.size, 3, none⟩ = some (.int .u16 x.more)) ∧ Row y a1 x.all.length x.all) (by kernel_rfl) (⟨⟨x0, x1, x2, x3⟩, HRb.out.drew⟩) (fun hHeld => ?_)
          refine wpAnyH_take (i := 0) (v := (.int .i64 E)) rfl (by kernel_rfl) (by kernel_rfl) (by kernel_rfl) (fun _ _ _ h => h) (Or.inl ⟨by rfl, ?_⟩) (by assumption) ?_
          · intro w9 hSw
            try dsimp only at hSw
            go_simp
            all_goals try decide
            all_goals try assumption
            all_goals try omega
          try simp only [Act.put, List.getElem_toArray, List.getElem_cons_succ, List.getElem_cons_zero, List.setIfInBounds_toArray, List.set_cons_zero, List.set_cons_succ]
          refine wpAnyH_take (i := 1) (v := (.pointer (some ⟨d, 0, none⟩))) rfl (by kernel_rfl) (by kernel_rfl) (by kernel_rfl) (fun _ _ _ h => h) (Or.inl ⟨by rfl, ?_⟩) (by assumption) ?_
          · intro w9 hSw
            try dsimp only at hSw
            go_simp
            all_goals try decide
            all_goals try assumption
            all_goals try omega
          try simp only [Act.put, List.getElem_toArray, List.getElem_cons_succ, List.getElem_cons_zero, List.setIfInBounds_toArray, List.set_cons_zero, List.set_cons_succ]
          refine wpAnyH_take (i := 2) (v := (.pointer (some ⟨wr.heap.size, 1, none⟩))) rfl (by kernel_rfl) (by kernel_rfl) (by kernel_rfl) (fun _ _ _ h => h) (Or.inl ⟨by rfl, ?_⟩) (by assumption) ?_
          · intro w9 hSw
            try dsimp only at hSw
            go_simp
            all_goals try decide
            all_goals try assumption
            all_goals try omega
          try simp only [Act.put, List.getElem_toArray, List.getElem_cons_succ, List.getElem_cons_zero, List.setIfInBounds_toArray, List.set_cons_zero, List.set_cons_succ]
          refine wpAnyH_take (i := 3) (v := (.int .u8 x.grp)) rfl (by kernel_rfl) (by kernel_rfl) (by kernel_rfl) (fun _ _ _ h => h) (Or.inl ⟨by rfl, ?_⟩) (by assumption) ?_
          · intro w9 hSw
            try dsimp only at hSw
            obtain ⟨⟨hS0, hS1, hS2, hS3⟩, _⟩ := hSw
            go_simp
          try simp only [Act.put, List.getElem_toArray, List.getElem_cons_succ, List.getElem_cons_zero, List.setIfInBounds_toArray, List.set_cons_zero, List.set_cons_succ]
          refine wpAnyH_take (i := 4) (v := (.agg #[.int .u8 x.kind, .int .u8 x.grp, .slice ab x.bs.length cb, .int .u16 x.more])) rfl (by kernel_rfl) (by kernel_rfl) (by kernel_rfl) (fun _ _ _ h => h) (Or.inl ⟨by rfl, ?_⟩) (by assumption) ?_
          · intro w9 hSw
            try dsimp only at hSw
            obtain ⟨⟨hS0, hS1, hS2, hS3⟩, _⟩ := hSw
            go_simp
          try simp only [Act.put, List.getElem_toArray, List.getElem_cons_succ, List.getElem_cons_zero, List.setIfInBounds_toArray, List.set_cons_zero, List.set_cons_succ]
          refine wpAnyH_ready (rs := [5]) (by kernel_rfl) (by simp) ?_
          refine AllReadyH.cons rfl (fun K' hK => ?_) AllReadyH.nil
          rw [if_pos (by rfl)]
          simp only [List.getElem_toArray, List.getElem_cons_succ, List.getElem_cons_zero]
          go_wp2_with fail
          refine (BY2).mono ?_
          rintro e U2 ⟨⟨a2, c2, rfl, hT2⟩, hb2⟩
          have KU2 : Kp [] U U2 := ((Kp.refl _ _).drew).trans (Kp.of hb2)
          have RS := rstore_both (HMU.out.next KU2.bel) HX.out.a.op.grp (by omega) n2 x hx h3 a2 c2 hT2.row
          clear hT2 BY2
          try go_wp2_with fail
          refine hK.out _ _ (⟨⟨KU2.cell x0 (by simp), KU2.cell x1 (by simp), KU2.cell x2 (by simp), KU2.cell x3 (by simp)⟩, HRb.out.kp' KU2 (by simp)⟩) (fun hHeld => ?_)
          clear hK K'
          try simp only [Act.put, List.getElem_toArray, List.getElem_cons_succ, List.getElem_cons_zero, List.setIfInBounds_toArray, List.set_cons_zero, List.set_cons_succ]
          refine wpAnyH_ready (rs := [6]) (by kernel_rfl) (by simp) ?_
          refine AllReadyH.cons rfl (fun K' hK => ?_) AllReadyH.nil
          rw [if_pos (by rfl)]
          simp only [List.getElem_toArray, List.getElem_cons_succ, List.getElem_cons_zero]
          go_wp2_with fail
          refine (RS).mono ?_
          rintro e2 V h2
          have KV : Kp [db] U V := (KU2.more (by simp)).trans h2.2.2
          obtain ⟨_, e2, j2, s2, hN, hc2, ho2, ha2⟩ := One.step HX.out hcut hof har (by omega) x hx HbY.out HH1.out KU2.bel h2
          have HN : Hid (One w V p B q d db count j2 j2.all s2 (2 + 70000 * i + 70000)) := hN
          have HC : Hid (j2.cut = false ∧ s2.of = false ∧ s2.ar = false) := ⟨hc2, ho2, ha2⟩
          have HRV : Hid (Row V ab x.bs.length x.bs) := ((HRU.out.kp' KU2 (by simp)).kpM (HMU.out.next KU2.bel) h2.2.2)
          have HbV9 : Hid (Row V a1 x.all.length x.all) := ((HRb.out.kp' KU2 (by simp)).kpM (HMU.out.next KU2.bel) h2.2.2)
          rw [hE.out] at e2
          subst e2
          clear hN hc2 ho2 ha2 RS
          try go_wp2_with fail
          refine hK.out _ _ (⟨⟨KV.cell x0 nNd, KV.cell x1 nNd, KV.cell x2 nNd, KV.cell x3 nNd⟩, (HRb.out.kp' KU2 (by simp)).kpM (HMU.out.next KU2.bel) h2.2.2⟩) (fun hHeld => ?_)
          clear hK K'
          try simp only [Act.put, List.getElem_toArray, List.getElem_cons_succ, List.getElem_cons_zero, List.setIfInBounds_toArray, List.set_cons_zero, List.set_cons_succ]
          refine wpAnyH_take (i := 7) (v := (.bool false)) rfl (by kernel_rfl) (by kernel_rfl) (by kernel_rfl) (fun _ _ _ h => h) (Or.inl ⟨by rfl, ?_⟩) (by assumption) ?_
          · intro w9 hSw
            try dsimp only at hSw
            go_simp
            all_goals try decide
            all_goals try assumption
            all_goals try omega
          try simp only [Act.put, List.getElem_toArray, List.getElem_cons_succ, List.getElem_cons_zero, List.setIfInBounds_toArray, List.set_cons_zero, List.set_cons_succ]
          refine wpAnyH_take (i := 8) (v := (.bool false)) rfl (by kernel_rfl) (by kernel_rfl) (by kernel_rfl) (fun _ _ _ h => h) (Or.inl ⟨by rfl, ?_⟩) (by assumption) ?_
          · intro w9 hSw
            try dsimp only at hSw
            go_simp
            all_goals try decide
            all_goals try assumption
            all_goals try omega
          try simp only [Act.put, List.getElem_toArray, List.getElem_cons_succ, List.getElem_cons_zero, List.setIfInBounds_toArray, List.set_cons_zero, List.set_cons_succ]
          refine wpAnyH_take (i := 9) (v := (.slice a1 x.all.length c1)) rfl (by kernel_rfl) (by kernel_rfl) (by kernel_rfl) (fun _ _ _ h => h) (Or.inl ⟨by rfl, ?_⟩) (by assumption) ?_
          · intro w9 hSw
            try dsimp only at hSw
            go_simp
            all_goals try decide
            all_goals try assumption
            all_goals try omega
          try simp only [Act.put, List.getElem_toArray, List.getElem_cons_succ, List.getElem_cons_zero, List.setIfInBounds_toArray, List.set_cons_zero, List.set_cons_succ]
          refine wpAnyH_take (i := 10) (v := (.string (strOfNums x.all))) rfl (by kernel_rfl) (by kernel_rfl) (by kernel_rfl) (fun _ _ _ h => h) (Or.inl ⟨by rfl, ?_⟩) (by assumption) ?_
          · intro w9 hSw
            try dsimp only at hSw
            obtain ⟨_, hS4⟩ := hSw
            have hcv := hS4.str c1
            go_simp
          try simp only [Act.put, List.getElem_toArray, List.getElem_cons_succ, List.getElem_cons_zero, List.setIfInBounds_toArray, List.set_cons_zero, List.set_cons_succ]
          refine wpAnyH_take (i := 11) (v := (.agg #[.int .u8 x.kind, .int .u8 x.grp, .slice ab x.bs.length cb, .int .u16 x.more])) rfl (by kernel_rfl) (by kernel_rfl) (by kernel_rfl) (fun _ _ _ h => h) (Or.inl ⟨by rfl, ?_⟩) (by assumption) ?_
          · intro w9 hSw
            try dsimp only at hSw
            obtain ⟨⟨hS0, hS1, hS2, hS3⟩, _⟩ := hSw
            go_simp
          try simp only [Act.put, List.getElem_toArray, List.getElem_cons_succ, List.getElem_cons_zero, List.setIfInBounds_toArray, List.set_cons_zero, List.set_cons_succ]
          refine wpAnyH_ready (rs := [12]) (by kernel_rfl) (by simp) ?_
          refine AllReadyH.cons rfl (fun K' hK => ?_) AllReadyH.nil
          rw [if_pos (by rfl)]
          simp only [List.getElem_toArray, List.getElem_cons_succ, List.getElem_cons_zero]
          go_wp2_with fail
          refine ((opbytes_any x hx ab x.bs.length cb HRV.out)).mono ?_
          rintro e U3 ⟨⟨a3, c3, rfl, hT3⟩, hb3⟩
          try go_wp2_with fail
          refine hK.out _ _ (⟨⟨(Kp.of hb3 : Kp [] V U3).cell (KV.cell x0 nNd) (by simp), (Kp.of hb3 : Kp [] V U3).cell (KV.cell x1 nNd) (by simp), (Kp.of hb3 : Kp [] V U3).cell (KV.cell x2 nNd) (by simp), (Kp.of hb3 : Kp [] V U3).cell (KV.cell x3 nNd) (by simp)⟩, (HbV9.out.next hb3)⟩) (fun hHeld => ?_)
          clear hK K'
          try simp only [Act.put, List.getElem_toArray, List.getElem_cons_succ, List.getElem_cons_zero, List.setIfInBounds_toArray, List.set_cons_zero, List.set_cons_succ]
          refine wpAnyH_ready (rs := [13]) (by kernel_rfl) (by simp) ?_
          refine AllReadyH.cons rfl (fun K' hK => ?_) AllReadyH.nil
          rw [if_pos (by rfl)]
          simp only [List.getElem_toArray, List.getElem_cons_succ, List.getElem_cons_zero]
          have hcv3 := hT3.row.str c3
          go_wp2_with fail
          refine hK.out _ _ (⟨⟨(Kp.of hb3 : Kp [] V U3).cell (KV.cell x0 nNd) (by simp), (Kp.of hb3 : Kp [] V U3).cell (KV.cell x1 nNd) (by simp), (Kp.of hb3 : Kp [] V U3).cell (KV.cell x2 nNd) (by simp), (Kp.of hb3 : Kp [] V U3).cell (KV.cell x3 nNd) (by simp)⟩, HbV9.out.next hb3⟩) (fun hHeld => ?_)
          clear hK K'
          try simp only [Act.put, List.getElem_toArray, List.getElem_cons_succ, List.getElem_cons_zero, List.setIfInBounds_toArray, List.set_cons_zero, List.set_cons_succ]
          refine wpAnyH_take (i := 14) (v := (.bool false)) rfl (by kernel_rfl) (by kernel_rfl) (by kernel_rfl) (fun _ _ _ h => h) (Or.inl ⟨by rfl, ?_⟩) (by assumption) ?_
          · intro w9 hSw
            try dsimp only at hSw
            go_simp
            all_goals try decide
            all_goals try assumption
            all_goals try omega
          try simp only [Act.put, List.getElem_toArray, List.getElem_cons_succ, List.getElem_cons_zero, List.setIfInBounds_toArray, List.set_cons_zero, List.set_cons_succ]
          refine wpAnyH_take (i := 15) (v := (.bool false)) rfl (by kernel_rfl) (by kernel_rfl) (by kernel_rfl) (fun _ _ _ h => h) (Or.inl ⟨by rfl, ?_⟩) (by assumption) ?_
          · intro w9 hSw
            try dsimp only at hSw
            go_simp
            all_goals try decide
            all_goals try assumption
            all_goals try omega
          try simp only [Act.put, List.getElem_toArray, List.getElem_cons_succ, List.getElem_cons_zero, List.setIfInBounds_toArray, List.set_cons_zero, List.set_cons_succ]
          refine wpAnyH_done (by kernel_rfl) ?_ _
          clear x0 x1 x2 x3
          have HN2 : Hid (One w U3 p B q d db count j2 j2.all s2 (2 + 70000 * i + 70000)) := HN.out.next hb3
          clear HN hb3 KV KU2
          have SA := same_any HN2.out.a.js HN2.out.ms HN2.out.a.op.grp.octs
          rw [agr_refl] at SA
          go_wp2_with fail
          with_reducible refine SA.mono ?_
          rintro e V9 ⟨rfl, hV9⟩
          clear SA
          have HN9 : Hid (One w V9 p B q d db count j2 j2.all s2 (2 + 70000 * (i + 1))) := (HN2.out.next hV9).more (by omega)
          clear hV9
          go_wp2_with fail
          exact ⟨⟨i + 1, q, d, db, j2, s2, by omega, by go_num, rfl, rfl, HN9.out, HC.out.1, HC.out.2.1, HC.out.2.2⟩, by simp [intOf]; omega⟩
    · have gl1 : ¬ (i : Int) < (la : Int) := by omega
      have SA := same_any HT.out.a.js HT.out.ms HT.out.a.op.grp.octs
      rw [agr_refl] at SA
      go_wp2_with fail
      with_reducible refine SA.mono ?_
      rintro e V ⟨rfl, hV⟩
      clear SA
      have hV1 := HT.out.next hV
      obtain ⟨hA, hB⟩ := away_ab (by omega) HT.out.away
      have AP := apart_any hV1.fs hof n8 hA hB
      have HV1 : Hid (Below w.heap.size w V) := hV1.bel
      clear hV hV1 hA hB
      go_wp2_with fail
      with_reducible refine AP.mono ?_
      rintro e V2 ⟨rfl, hV2⟩
      clear AP
      have HV2 : Hid (Below w.heap.size w V2) := Below.andThen HV1.out hV2
      have WK := works_any V2
      clear hV2
      go_wp2_with fail
      with_reducible refine WK.mono ?_
      rintro e V3 ⟨rfl, hV3⟩
      clear WK
      have HV3 : Hid (Below w.heap.size w V3) := Below.andThen HV2.out hV3
      clear hV3
      go_wp2_with fail
      go_ret
      exact ⟨rfl, HV3.out⟩
#print axioms journalPlays_any
end Go.Proofs.Ytgpbmccjcjoijaa
namespace Go.Proofs.Ytgpbmccjcjoijaa
open Go.RowKit

theorem FS.Le.cut {s : FS} {m : Nat} (h : s.Le m) (a : Int) (ha : a < 9223372036854775808) : (⟨s.cs, s.st, decide (0 ≤ a), max a 0, s.of⟩ : FS).Le m := ⟨h.st0, h.st1, by show 0 ≤ max a 0; omega, by show max a 0 < _; omega⟩

set_option linter.unusedSimpArgs false in
set_option maxHeartbeats 16000000 in
set_option maxRecDepth 100000 in
theorem journalCuts_any {w : World} (c : Int) {a : Option Addr} {la : Nat} {l1 : List Opx} (o1 : IsOx w a la l1) (ca : Nat) (h1 : la ≤ maxLen) (fi : Int) (hfi : 0 ≤ fi ∧ fi < 65536) :
    Calls Try.prog 4 #[.int .i64 c, .slice a la ca, .int .u16 fi] w fun e w' => e = .returned (.bool true) ∧ Below w.heap.size w w' := by
  have LA := large_any o1 ca h1
  have WK := works_any w
  have Ho1 : Hid (IsOx w a la l1) := o1
  clear o1
  by_cases hc2 : c < 2
  · clear LA
    go_enter Try.func4, Try.ntmps4
    go_wp2_with fail
    with_reducible refine WK.mono ?_
    rintro e Z ⟨rfl, hZ⟩
    clear WK
    go_wp2_with fail
    go_ret
    exact ⟨rfl, hZ⟩
  by_cases hc8 : c > 8
  · clear LA
    go_enter Try.func4, Try.ntmps4
    go_wp2_with fail
    with_reducible refine WK.mono ?_
    rintro e Z ⟨rfl, hZ⟩
    clear WK
    go_wp2_with fail
    go_ret
    exact ⟨rfl, hZ⟩
  obtain ⟨count, rfl⟩ := Int.eq_ofNat_of_zero_le (show 0 ≤ c by omega)
  go_enter Try.func4, Try.ntmps4
  go_wp2_with fail
  with_reducible refine LA.mono ?_
  rintro e w ⟨r1, rfl, hr1, rfl⟩
  clear LA
  cases r1 with
  | true =>
    clear hr1
    go_wp2_with fail
    with_reducible refine WK.mono ?_
    rintro e Z ⟨rfl, hZ⟩
    clear WK
    go_wp2_with fail
    go_ret
    exact ⟨rfl, hZ⟩
  | false =>
  obtain ⟨hla, hl1⟩ := hr1 rfl
  have HL1 : Hid (∀ x ∈ l1, x.bs.length ≤ 20000) := hl1
  have BG := begun_any count (by omega) w
  have n2 : 2 ≤ count := by omega
  have n8 : count ≤ 8 := by omega
  clear hr1 hl1 WK
  go_wp2_with fail
  with_reducible refine BG.mono ?_
  rintro e U0 ⟨⟨p, B, rfl, hp, hB, hF⟩, hb⟩
  clear BG
  have HF0 : Hid (IsS U0 p B (count + 2) (count + 2) (begS count)) := hF
  have HU0 : Hid (Below w.heap.size w U0) := hb
  obtain ⟨A, hA⟩ : ∃ A : Int, Hid (fi.tmod 50 = A ∧ 0 ≤ A ∧ A < 50) := ⟨_, rfl, by rw [Int.tmod_eq_emod_of_nonneg hfi.1]; omega, by rw [Int.tmod_eq_emod_of_nonneg hfi.1]; omega⟩
  have a0 := hA.out.2.1
  have a1 := hA.out.2.2
  have aE := hA.out.1
  have aW : IntKind.i64.wrap A = A := wrap64 _ (by omega) (by omega)
  have CU := cut_any hF A
  clear hF hb
  go_wp2_with fail
  with_reducible refine CU.mono ?_
  rintro e U ⟨rfl, hF, hKU⟩
  clear CU aE aW
  have HF : Hid (IsS U p B (count + 2) (count + 2) ⟨(begS count).cs, (begS count).st, decide (0 ≤ A), max A 0, (begS count).of⟩) := hF
  have HU : Hid (Below w.heap.size w U) := hKU.below HU0.out HU0.out.size (fun x hx => by simp at hx; omega)
  have hlt := hF.lt
  obtain ⟨S0, hS0⟩ : ∃ S0 : FS, Hid ((⟨(begS count).cs, (begS count).st, decide (0 ≤ A), max A 0, (begS count).of⟩ : FS) = S0) := ⟨_, rfl⟩
  rw [hS0.out] at HF
  have hS0cs : Hid (S0.cs = begC count) := by rw [← hS0.out]; rfl
  have hS0of : S0.of = false := by rw [← hS0.out]; rfl
  have hS0le : Hid (S0.Le 2) := by
    rw [← hS0.out]
    exact FS.Le.cut (s := begS count) (m := 2) ⟨by show (0 : Int) ≤ 2; decide, by show (2 : Int) ≤ _; decide, by show (0 : Int) ≤ 0; decide, by show (0 : Int) < _; decide⟩ A (by omega)
  have OP := open_ok HF.out hS0of 1 count n2 (by omega) [p, B] (by simp; omega)
  rw [show ((1 : Nat) : Int) = 1 from rfl] at OP
  clear hF hKU HU0 HF0
  go_wp2_with fail
  with_reducible refine OP.mono ?_
  rintro e V ⟨⟨q, rfl, hq, hJ⟩, hbV⟩
  clear OP
  have HJ : Hid (IsJ V [q, p, B] q p 1 (count / 2) (opn S0.cs 1 (count / 2))) := hJ
  have HbV : Hid (Below U.heap.size U V) := hbV
  have ql : q < V.heap.size := by obtain ⟨_, h, _⟩ := hJ; exact lt_of_heap h
  have hUV := hbV.size
  have RN := rnew_any count V
  clear hJ hbV
  go_wp2_with fail
  with_reducible refine RN.mono ?_
  rintro e X ⟨rfl, hM1, hK1⟩
  clear RN
  have HT0 : Hid (One w X p B q (V.heap.size + 1) V.heap.size count (opn S0.cs 1 (count / 2)) (opn S0.cs 1 (count / 2)).all S0 (2 + 70000 * 0) ∧ (opn S0.cs 1 (count / 2)).cut = false ∧ S0.of = false) := by
    have w1 := HU.out.size
    have o1 := Go.Proofs.Ytgpbmccjcjoijaa.opened (first := 1) (count := count) (n := count + 2) (s := S0) HF.out.oct HF.out.len (by omega) n2
    have hJ := Jat.opened HF.out HbV.out hq HJ.out n2 (by omega) (by simp) (by simp) (by simp; omega)
    refine ⟨⟨Below.andThen (Below.andThen HU.out HbV.out) hK1.bel, (HF.out.next HbV.out).next hK1.bel, hS0le.out, hJ.next hK1.bel, ?_, by simp; omega, by simp; omega, by rw [hS0cs.out]; exact Away.refl _ _ _, by omega⟩, o1.2, hS0of⟩
    rw [hS0cs.out, show (opn (begC count) 1 (count / 2)).all = all0 from beg_blank count (count / 2) (by omega)]
    exact hM1
  clear HF HU HJ HbV hM1 hK1 hS0cs hS0le hS0of hS0 a0 a1 hA
  generalize (opn S0.cs 1 (count / 2)) = J1 at *
  generalize V.heap.size + 1 = D0 at *
  generalize V.heap.size = E0 at *
  go_wp2_with fail
  go_loopw [8, 9, 10, 11] (fun vj ve vm vi wr => ∃ (i q d db : Nat) (j : JS) (s : FS), i ≤ la ∧ vi = .int .i64 i ∧ vj = .pointer (some ⟨q, 0, none⟩) ∧ ve = .int .i64 0 ∧ vm = .pointer (some ⟨d, 0, none⟩) ∧ One w wr p B q d db count j j.all s (2 + 70000 * i) ∧ j.cut = false ∧ s.of = false) (fun _ _ _ vi _ => la - (intOf vi).toNat)
  case atStart => exact ⟨0, q, D0, E0, J1, S0, by omega, rfl, rfl, rfl, rfl, HT0.out⟩
  case round =>
    clear HT0 ql
    obtain ⟨i, q, d, db, j, s, hi, rfl, rfl, rfl, rfl, hT, hcut, hof⟩ := hrel
    have HT : Hid (One w wr p B q d db count j j.all s (2 + 70000 * i)) := hT
    have OF := off_any hT.fs
    rw [hof] at OF
    clear hT
    have gi : (0 : Int) ≤ i := by omega
    by_cases hlt1 : i < la
    · have gl1 : (i : Int) < (la : Int) := by omega
      obtain ⟨b1, off1, x, ab, cb, hm1, rfl, hX⟩ := Ho1.out.gets i hlt1
      have hx : x.Ok := (Ho1.out.ok x hm1).ok (HL1.out x hm1)
      have k0 := hx.k0
      have m0 := hx.m0
      obtain ⟨p0, p1, p2, p3, r⟩ := hX wr HT.out.bel
      have HR : Hid (Row wr ab x.bs.length x.bs) := r
      clear hX r
      have bX : Below wr.heap.size wr (wr.alloc (.cells #[.int .u8 x.kind, .int .u8 x.grp, .slice ab x.bs.length cb, .int .u16 x.more] 36)) := Below.al (Below.refl _ _) _
      have hcX : (wr.alloc (.cells #[.int .u8 x.kind, .int .u8 x.grp, .slice ab x.bs.length cb, .int .u16 x.more] 36)).heap[wr.heap.size]? = some (.cells #[.int .u8 x.kind, .int .u8 x.grp, .slice ab x.bs.length cb, .int .u16 x.more] 36 (0, 0)) := heap_alloc_new wr _
      have x0 : (wr.alloc (.cells #[.int .u8 x.kind, .int .u8 x.grp, .slice ab x.bs.length cb, .int .u16 x.more] 36)).cell? ⟨wr.heap.size, 0, none⟩ = some (.int .u8 x.kind) := by rw [cell_of_row _ _ _ _ _ _ hcX]; rfl
      have x1 : (wr.alloc (.cells #[.int .u8 x.kind, .int .u8 x.grp, .slice ab x.bs.length cb, .int .u16 x.more] 36)).cell? ⟨wr.heap.size, 1, none⟩ = some (.int .u8 x.grp) := by rw [cell_of_row _ _ _ _ _ _ hcX]; rfl
      have x2 : (wr.alloc (.cells #[.int .u8 x.kind, .int .u8 x.grp, .slice ab x.bs.length cb, .int .u16 x.more] 36)).cell? ⟨wr.heap.size, 2, none⟩ = some (.slice ab x.bs.length cb) := by rw [cell_of_row _ _ _ _ _ _ hcX]; rfl
      have x3 : (wr.alloc (.cells #[.int .u8 x.kind, .int .u8 x.grp, .slice ab x.bs.length cb, .int .u16 x.more] 36)).cell? ⟨wr.heap.size, 3, none⟩ = some (.int .u16 x.more) := by rw [cell_of_row _ _ _ _ _ _ hcX]; rfl
      have HX : Hid (One w (wr.alloc (.cells #[.int .u8 x.kind, .int .u8 x.grp, .slice ab x.bs.length cb, .int .u16 x.more] 36)) p B q d db count j j.all s (2 + 70000 * i)) := HT.out.next bX
      have HRX : Hid (Row (wr.alloc (.cells #[.int .u8 x.kind, .int .u8 x.grp, .slice ab x.bs.length cb, .int .u16 x.more] 36)) ab x.bs.length x.bs) := HR.out.next bX
      clear bX hcX
      by_cases h5 : x.kind % 6 = 5
      · have h5' : x.kind.tmod 6 = 5 := by rw [Int.tmod_eq_emod_of_nonneg k0.1]; exact h5
        obtain ⟨A, hA⟩ : ∃ A : Int, Hid (x.more.tmod 3000 = A ∧ 0 ≤ A ∧ A < 3000) := ⟨_, rfl, by rw [Int.tmod_eq_emod_of_nonneg m0.1]; omega, by rw [Int.tmod_eq_emod_of_nonneg m0.1]; omega⟩
        have a0 := hA.out.2.1
        have a1 := hA.out.2.2
        have aE := hA.out.1
        have aW : IntKind.i64.wrap A = A := wrap64 _ (by omega) (by omega)
        have CU := cut_any HX.out.fs A
        go_wp2_with fail
        with_reducible refine OF.mono ?_
        rintro e wr ⟨rfl, rfl⟩
        clear OF
        go_wp2_with fail
        clear p0 p1 p2 p3
        generalize (wr.alloc (.cells #[.int .u8 x.kind, .int .u8 x.grp, .slice ab x.bs.length cb, .int .u16 x.more] 36)) = X at *
        with_reducible refine CU.mono ?_
        rintro e U ⟨rfl, hF, hKU⟩
        clear CU
        have HN : Hid (One w U p B q d db count j j.all ⟨s.cs, s.st, decide (0 ≤ A), max A 0, s.of⟩ (2 + 70000 * (i + 1))) := (HX.out.flash (s' := ⟨s.cs, s.st, decide (0 ≤ A), max A 0, s.of⟩) rfl (HX.out.le.cut A (by omega)) hF hKU).more (by omega)
        clear hF hKU aE aW x0 x1 x2 x3
        go_wp2_with fail
        exact ⟨⟨i + 1, q, d, db, j, _, by omega, by go_num, rfl, rfl, rfl, HN.out, hcut, hof⟩, by simp [intOf]; omega⟩
      by_cases h4 : x.kind % 6 = 4
      · have h5' : ¬ x.kind.tmod 6 = 5 := by rw [Int.tmod_eq_emod_of_nonneg k0.1]; exact h5
        have h4' : x.kind.tmod 6 = 4 := by rw [Int.tmod_eq_emod_of_nonneg k0.1]; exact h4
        have OP := open_ok HX.out.fs hof 1 count n2 (by omega) [p, B] (fun y hy => HX.out.lt y (by simp at hy ⊢; omega))
        rw [show ((1 : Nat) : Int) = 1 from rfl] at OP
        go_wp2_with fail
        with_reducible refine OF.mono ?_
        rintro e wr ⟨rfl, rfl⟩
        clear OF
        go_wp2_with fail
        clear p0 p1 p2 p3
        generalize (wr.alloc (.cells #[.int .u8 x.kind, .int .u8 x.grp, .slice ab x.bs.length cb, .int .u16 x.more] 36)) = X at *
        with_reducible refine OP.mono ?_
        rintro e V ⟨⟨q2, rfl, hq2, hJ2⟩, hbV⟩
        clear OP
        have HJ2 : Hid (IsJ V [q2, p, B] q2 p 1 (count / 2) (opn s.cs 1 (count / 2))) := hJ2
        have HbV : Hid (Below X.heap.size X V) := hbV
        have RO := ropened_any (HX.out.next hbV).ms
        clear hJ2 hbV x0 x1 x2 x3
        go_wp2_with fail
        with_reducible refine RO.mono ?_
        rintro e Z ⟨rfl, hM2, hK2⟩
        clear RO
        obtain ⟨hN, hcut2⟩ := HX.out.reopen n2 HbV.out hq2 HJ2.out hK2.bel hM2 (Nat.le_succ _) (Nat.le_refl _)
        have HN : Hid (One w Z p B q2 (V.heap.size + 1) V.heap.size count (opn s.cs 1 (count / 2)) (opn s.cs 1 (count / 2)).all s (2 + 70000 * (i + 1))) := hN.more (by omega)
        have HC : Hid ((opn s.cs 1 (count / 2)).cut = false) := hcut2
        clear hM2 hK2 hN hcut2
        go_wp2_with fail
        exact ⟨⟨i + 1, q2, _, _, _, s, by omega, by go_num, rfl, rfl, rfl, HN.out, HC.out, hof⟩, by simp [intOf]; omega⟩
      have h5' : ¬ x.kind.tmod 6 = 5 := by rw [Int.tmod_eq_emod_of_nonneg k0.1]; exact h5
      have h4' : ¬ x.kind.tmod 6 = 4 := by rw [Int.tmod_eq_emod_of_nonneg k0.1]; exact h4
      have WD := would_any HX.out.ms HX.out.a.op.grp.lens (by omega) n2 x hx ab x.bs.length cb HRX.out
      go_wp2_with fail
      with_reducible refine OF.mono ?_
      rintro e wr ⟨rfl, rfl⟩
      clear OF
      go_wp2_with fail
      clear p0 p1 p2 p3
      generalize (wr.alloc (.cells #[.int .u8 x.kind, .int .u8 x.grp, .slice ab x.bs.length cb, .int .u16 x.more] 36)) = X at *
      with_reducible refine WD.mono ?_
      rintro e Y ⟨d2, db2, rfl, hd, hdb, hM, hK⟩
      clear WD
      have HY : Hid (One w Y p B q d db count j j.all s (2 + 70000 * i)) := HX.out.next hK.bel
      have x0 := hK.cell x0 (by simp)
      have x1 := hK.cell x1 (by simp)
      have x2 := hK.cell x2 (by simp)
      have x3 := hK.cell x3 (by simp)
      have DS := does_any HY.out.fs _ HY.out.le (by omega) HY.out.a.js HY.out.a.op.ok HY.out.a.qp HY.out.a.qB (by omega) (by omega) (by omega) HY.out.a.pS HY.out.a.BS HY.out.a.qS HY.out.a.lt x hx ab x.bs.length cb (HRX.out.next hK.bel)
      have HH := fun e Z hp => One.does (e := e) (Z := Z) HX.out hcut hof n8 n2 x hx hK hd hdb hM hp
      obtain ⟨E, hE⟩ : ∃ E, Hid ((doesM count j.all x).1 = E) := ⟨_, rfl⟩
      obtain ⟨M2, hM2⟩ : ∃ M2, Hid ((doesM count j.all x).2 = M2) := ⟨_, rfl⟩
      rw [hE.out, hM2.out] at HH
      rw [hE.out]
      have eE : (E != E) = false := by simp
      have HH : Hid _ := HH
      have HXd : Hid (Kp [] X Y ∧ X.heap.size ≤ d2 ∧ X.heap.size ≤ db2) := ⟨hK, hd, hdb⟩
      clear hK hd hdb hM
      go_wp2_with fail
      with_reducible refine DS.mono ?_
      rintro e Z hp
      rcases HH.out e Z hp with ⟨rfl, j2, s2, hN, hcutn, hofn⟩ | ⟨rfl, rfl, j2, s2, hG, hofn⟩
      · have OF2 := off_any hN.fs
        rw [hofn] at OF2
        have HN : Hid (One w Z p B q d2 db2 count j2 j2.all s2 (2 + 70000 * i + 70000)) := hN
        have HC : Hid (j2.cut = false ∧ s2.of = false) := ⟨hcutn, hofn⟩
        have SA := same_any hN.a.js hN.ms hN.a.op.grp.octs
        rw [agr_refl] at SA
        clear hN hcutn hofn HY DS HH hp
        go_wp2_with fail
        with_reducible refine OF2.mono ?_
        rintro e Z ⟨rfl, rfl⟩
        clear OF2
        go_wp2_with fail
        with_reducible refine SA.mono ?_
        rintro e V9 ⟨rfl, hV9⟩
        clear SA
        have HN : Hid (One w V9 p B q d2 db2 count j2 j2.all s2 (2 + 70000 * (i + 1))) := (HN.out.next hV9).more (by omega)
        clear hV9 x0 x1 x2 x3
        go_wp2_with fail
        exact ⟨⟨i + 1, q, d2, db2, j2, s2, by omega, by go_num, rfl, rfl, rfl, HN.out, HC.out.1, HC.out.2⟩, by simp [intOf]; omega⟩
      · have OF2 := off_any hG.fs
        rw [hofn] at OF2
        have HG : Hid (Gone w Z p B q d db d2 db2 count j2 M2 s2 (2 + 70000 * i + 70000)) := hG
        have SA := same_any hG.js hG.m1 hG.g1.octs
        rw [agr_refl] at SA
        clear hG hofn HY DS HH hp
        go_wp2_with fail
        with_reducible refine OF2.mono ?_
        rintro e Z ⟨rfl, rfl⟩
        clear OF2
        go_wp2_with fail
        with_reducible refine SA.mono ?_
        rintro e Z1 ⟨rfl, hb1⟩
        clear SA
        have HG1 : Hid (Gone w Z1 p B q d db d2 db2 count j2 M2 s2 (2 + 70000 * i + 70000)) := HG.out.next hb1
        have ST := HG1.out.store (by omega) n2 n8
        clear hb1 x0 x1 x2 x3
        go_wp2_with fail
        with_reducible refine ST.mono ?_
        rintro e Z2 hp2
        obtain ⟨rfl, hG2⟩ := HG1.out.call hp2
        have HG2 : Hid (Gone w Z2 p B q d db d2 db2 count j2 M2 s2 (2 + 70000 * i + 70000)) := hG2
        have ON := on_any hG2.fs
        clear ST hp2 hG2
        go_wp2_with fail
        with_reducible refine ON.mono ?_
        rintro e Z3 ⟨rfl, hF3, hK3⟩
        have HG3 : Hid (Gone w Z3 p B q d db d2 db2 count j2 M2 ⟨s2.cs, s2.st, false, 0, false⟩ (2 + 70000 * i + 70000)) := HG2.out.on hF3 hK3
        have ST := HG3.out.store (by omega) n2 n8
        obtain ⟨s3, hs3⟩ : ∃ s3 : FS, Hid ((⟨s2.cs, s2.st, false, 0, false⟩ : FS) = s3 ∧ s3.of = false) := ⟨_, rfl, rfl⟩
        rw [hs3.out.1] at HG3 ST
        clear ON hF3 hK3
        go_wp2_with fail
        with_reducible refine ST.mono ?_
        rintro e Z4 hp4
        obtain ⟨rfl, hG4⟩ := HG3.out.call hp4
        have HG4 : Hid (Gone w Z4 p B q d db d2 db2 count j2 M2 s3 (2 + 70000 * i + 70000)) := hG4
        have RE := hG4.restore (by omega) n2 n8
        clear ST hp4 hG4
        go_wp2_with fail
        with_reducible refine RE.mono ?_
        rintro e Z5 hp5
        obtain ⟨rfl, hG5⟩ := HG4.out.call hp5
        have HG5 : Hid (Gone w Z5 p B q d db d2 db2 count j2 M2 s3 (2 + 70000 * i + 70000)) := hG5
        have OP := open_ok hG5.fs hs3.out.2 1 count n2 (by omega) [p, B] (fun y hy => hG5.lt y (by simp at hy ⊢; omega))
        rw [show ((1 : Nat) : Int) = 1 from rfl] at OP
        clear RE hp5 hG5
        go_wp2_with fail
        with_reducible refine OP.mono ?_
        rintro e V ⟨⟨q3, rfl, hq3, hJ3⟩, hbV⟩
        clear OP
        have HJ3 : Hid (IsJ V [q3, p, B] q3 p 1 (count / 2) (opn s3.cs 1 (count / 2))) := hJ3
        have HbV : Hid (Below Z5.heap.size Z5 V) := hbV
        have RO := ropened_any (HG5.out.next hbV).m2
        clear hJ3 hbV
        go_wp2_with fail
        with_reducible refine RO.mono ?_
        rintro e Z6 ⟨rfl, hM6, hK6⟩
        clear RO
        have HK6 : Hid (Below V.heap.size V Z6) := hK6.bel
        have SA := same_any (HJ3.out.next hK6.bel) hM6 HG5.out.g2.drop.octs
        rw [HG5.out.found] at SA
        obtain ⟨b, hb⟩ : ∃ b, Hid (agr (dropG j2.all) (dropG M2) = b) := ⟨_, rfl⟩
        rw [hb.out] at SA
        clear hM6 hK6
        cases b with
        | true =>
          go_wp2_with fail
          with_reducible refine SA.mono ?_
          rintro e Z7 ⟨rfl, hb7⟩
          clear SA
          have HK7 : Hid (Below V.heap.size V Z7) := Below.andThen HK6.out hb7
          have RO := ropened_any ((HG5.out.next HbV.out).next HK7.out).m2
          clear hb7
          go_wp2_with fail
          with_reducible refine RO.mono ?_
          rintro e Z8 ⟨rfl, hM8, hK8⟩
          clear RO
          have hv7 := HK7.out.size
          obtain ⟨hN, hcn⟩ := HG5.out.open (D := Z7.heap.size + 1) (DB := Z7.heap.size) n2 HbV.out hq3 HJ3.out (Below.andThen HK7.out hK8.bel) (by rw [agr_drop HG5.out.g1.n16 HG5.out.g2.n16 hb.out]; exact hM8) (by omega) hv7
          have HN : Hid (One w Z8 p B q3 (Z7.heap.size + 1) Z7.heap.size count (opn s3.cs 1 (count / 2)) (opn s3.cs 1 (count / 2)).all s3 (2 + 70000 * (i + 1))) := hN.more (by omega)
          have HC : Hid ((opn s3.cs 1 (count / 2)).cut = false ∧ s3.of = false) := ⟨hcn, hs3.out.2⟩
          clear hM8 hK8 hN hcn
          go_wp2_with fail
          exact ⟨⟨i + 1, q3, _, _, _, s3, by omega, by go_num, rfl, rfl, rfl, HN.out, HC.out.1, HC.out.2⟩, by simp [intOf]; omega⟩
        | false =>
          go_wp2_with fail
          with_reducible refine SA.mono ?_
          rintro e Z7 ⟨rfl, hb7⟩
          clear SA
          have HK7 : Hid (Below V.heap.size V Z7) := Below.andThen HK6.out hb7
          have RO := ropened_any ((HG5.out.next HbV.out).next HK7.out).m1
          clear hb7
          go_wp2_with fail
          with_reducible refine RO.mono ?_
          rintro e Z8 ⟨rfl, hM8, hK8⟩
          clear RO
          have HK8 : Hid (Below V.heap.size V Z8) := Below.andThen HK7.out hK8.bel
          have SA := same_any (HJ3.out.next HK8.out) hM8 HG5.out.g1.drop.octs
          rw [HG5.out.found, agr_refl] at SA
          clear hM8 hK8
          go_wp2_with fail
          with_reducible refine SA.mono ?_
          rintro e Z9 ⟨rfl, hb9⟩
          clear SA
          have HK9 : Hid (Below V.heap.size V Z9) := Below.andThen HK8.out hb9
          have RO := ropened_any ((HG5.out.next HbV.out).next HK9.out).m1
          clear hb9
          go_wp2_with fail
          with_reducible refine RO.mono ?_
          rintro e Z10 ⟨rfl, hM10, hK10⟩
          clear RO
          have hv9 := HK9.out.size
          obtain ⟨hN, hcn⟩ := HG5.out.open (D := Z9.heap.size + 1) (DB := Z9.heap.size) n2 HbV.out hq3 HJ3.out (Below.andThen HK9.out hK10.bel) hM10 (by omega) hv9
          have HN : Hid (One w Z10 p B q3 (Z9.heap.size + 1) Z9.heap.size count (opn s3.cs 1 (count / 2)) (opn s3.cs 1 (count / 2)).all s3 (2 + 70000 * (i + 1))) := hN.more (by omega)
          have HC : Hid ((opn s3.cs 1 (count / 2)).cut = false ∧ s3.of = false) := ⟨hcn, hs3.out.2⟩
          clear hM10 hK10 hN hcn
          go_wp2_with fail
          exact ⟨⟨i + 1, q3, _, _, _, s3, by omega, by go_num, rfl, rfl, rfl, HN.out, HC.out.1, HC.out.2⟩, by simp [intOf]; omega⟩
    · have gl1 : ¬ (i : Int) < (la : Int) := by omega
      have CU := cut_any HT.out.fs (-1)
      go_wp2_with fail
      with_reducible refine OF.mono ?_
      rintro e wr ⟨rfl, rfl⟩
      clear OF
      go_wp2_with fail
      with_reducible refine CU.mono ?_
      rintro e U ⟨rfl, hF, hKU⟩
      clear CU
      have HB : Hid (Below w.heap.size w U) := hKU.below HT.out.bel HT.out.bel.size (fun y hy => by simp at hy; subst hy; exact HT.out.new _ (by simp))
      obtain ⟨hA, hB⟩ := away_ab (by omega) HT.out.away
      have AP := apart_any (s := ⟨s.cs, s.st, decide ((0 : Int) ≤ -1), max (-1) 0, s.of⟩) hF hof n8 hA hB
      clear hF hKU hA hB
      go_wp2_with fail
      with_reducible refine AP.mono ?_
      rintro e V2 ⟨rfl, hV2⟩
      clear AP
      have HV2 : Hid (Below w.heap.size w V2) := Below.andThen HB.out hV2
      have WK := works_any V2
      clear hV2
      go_wp2_with fail
      with_reducible refine WK.mono ?_
      rintro e V3 ⟨rfl, hV3⟩
      clear WK
      have HV3 : Hid (Below w.heap.size w V3) := Below.andThen HV2.out hV3
      clear hV3
      go_wp2_with fail
      go_ret
      exact ⟨rfl, HV3.out⟩
#print axioms journalCuts_any
end Go.Proofs.Ytgpbmccjcjoijaa
