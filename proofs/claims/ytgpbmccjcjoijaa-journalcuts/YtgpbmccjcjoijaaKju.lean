/-
  The walk of JournalTwo.
-/
import Derived.Test.YtgpbmccjcjoijaaKjt
namespace Go.Proofs.Ytgpbmccjcjoijaa
open Go.RowKit

theorem Two.more {w0 wr : World} {p B q1 q2 d db f fb : Nat} {j1 j2 : JS} {s : FS} {m k : Nat} (h : Two w0 wr p B q1 q2 d db f fb j1 j2 s m) (hm : m ≤ k) : Two w0 wr p B q1 q2 d db f fb j1 j2 s k :=
  ⟨h.bel, h.fs, h.le.more hm, h.of, h.ar, h.a1, h.a2, h.c1, h.c2, h.m1, h.m2, h.n1, h.n2, h.new, h.ne⟩
theorem IsOx.gets {w : World} {a : Option Addr} {len : Nat} {l : List Opx} (h : IsOx w a len l) (i : Nat) (hi : i < len) : ∃ b off x ab cb, x ∈ l ∧ a = some ⟨b, off, none⟩ ∧ ∀ W, Below w.heap.size w W → W.cell? ⟨b, off + i * 4, none⟩ = some (.int .u8 x.kind) ∧ W.cell? ⟨b, off + i * 4 + 1, none⟩ = some (.int .u8 x.grp) ∧ W.cell? ⟨b, off + i * 4 + 2, none⟩ = some (.slice ab x.bs.length cb) ∧ W.cell? ⟨b, off + i * 4 + 3, none⟩ = some (.int .u16 x.more) ∧ Row W ab x.bs.length x.bs := by
  obtain ⟨b, off, x, ab, cb, _, hm, e, c0, c1, c2, c3, r⟩ := h.get i hi
  have hl : b < w.heap.size := block_lt_of_cell c0
  exact ⟨b, off, x, ab, cb, hm, e, fun W hb => ⟨by rw [hb.cell hl]; exact c0, by rw [hb.cell hl]; exact c1, by rw [hb.cell hl]; exact c2, by rw [hb.cell hl]; exact c3, r.next hb⟩⟩
theorem IsG.wider {w w' : World} {S : List Nat} {all : List Gp} {ss : List SL} (h : IsG w S all ss) (hb : Below w.heap.size w w') (x : Nat) (hx : w.heap.size ≤ x) : IsG w' (x :: S) all ss := ⟨h.n1, h.n2, fun i g s h1 h2 => by
  obtain ⟨r, l, hn⟩ := h.row i g s h1 h2
  refine ⟨r.next hb, l, fun hp b off e hm => ?_⟩
  rcases List.mem_cons.1 hm with h0 | hm
  · have := r.old hp b off e
    omega
  · exact hn hp b off e hm⟩
theorem IsJ.wider {w w' : World} {S : List Nat} {q p first k : Nat} {j : JS} (h : IsJ w S q p first k j) (hb : Below w.heap.size w w') (x : Nat) (hx : w.heap.size ≤ x) : IsJ w' (x :: S) q p first k j := by
  obtain ⟨ss, h, hI⟩ := h
  exact ⟨ss, (hb.block q (lt_of_heap h)).trans h, hI.wider hb x hx⟩

set_option linter.unusedSimpArgs false in
set_option maxHeartbeats 16000000 in
set_option maxRecDepth 100000 in
theorem journalTwo_any {w : World} {a b : Option Addr} {la lb : Nat} {l1 l2 : List Opx} (o1 : IsOx w a la l1) (o2 : IsOx w b lb l2) (ca cb : Nat) (h1 : la ≤ maxLen) (h2 : lb ≤ maxLen) :
    Calls Try.prog 6 #[.slice a la ca, .slice b lb cb] w fun e w' => e = .returned (.bool true) ∧ Below w.heap.size w w' := by
  have LA := large_any o1 ca h1
  have LB := large_any o2 cb h2
  have WK := works_any w
  have Ho1 : Hid (IsOx w a la l1) := o1
  have Ho2 : Hid (IsOx w b lb l2) := o2
  clear o1 o2
  go_enter Try.func6, Try.ntmps6
  go_wp2_with fail
  with_reducible refine LA.mono ?_
  rintro e w ⟨r1, rfl, hr1, rfl⟩
  clear LA
  cases r1 with
  | true =>
    clear LB hr1
    go_wp2_with fail
    with_reducible refine WK.mono ?_
    rintro e Z ⟨rfl, hZ⟩
    clear WK
    go_wp2_with fail
    go_ret
    exact ⟨rfl, hZ⟩
  | false =>
  have hr1 := hr1 rfl
  have HR1 : Hid (la ≤ 60 ∧ ∀ x ∈ l1, x.bs.length ≤ 20000) := hr1
  clear hr1
  go_wp2_with fail
  with_reducible refine LB.mono ?_
  rintro e w ⟨r2, rfl, hr2, rfl⟩
  clear LB
  cases r2 with
  | true =>
    clear hr2
    go_wp2_with fail
    with_reducible refine WK.mono ?_
    rintro e Z ⟨rfl, hZ⟩
    clear WK
    go_wp2_with fail
    go_ret
    exact ⟨rfl, hZ⟩
  | false =>
  obtain ⟨hla, hl1⟩ := HR1.out
  obtain ⟨hlb, hl2⟩ := hr2 rfl
  have HL1 : Hid (∀ x ∈ l1, x.bs.length ≤ 20000) := hl1
  have HL2 : Hid (∀ x ∈ l2, x.bs.length ≤ 20000) := hl2
  have NW := new_ok 6 (by omega) (by omega) w
  rw [show ((6 : Nat) : Int) = 6 from rfl] at NW
  clear HR1 hr2 hl1 hl2 WK
  go_wp2_with fail
  with_reducible refine NW.mono ?_
  rintro e U ⟨⟨p, B, rfl, hp, hB, hF⟩, hb⟩
  clear NW
  have HF : Hid (IsS U p B 6 6 (newS 6)) := hF
  have HU : Hid (Below w.heap.size w U) := hb
  have hlt := hF.lt
  have OP := open_ok hF rfl 0 2 (by omega) (by omega) [p, B] (by simp; omega)
  rw [show ((0 : Nat) : Int) = 0 from rfl, show ((2 : Nat) : Int) = 2 from rfl] at OP
  clear hF hb
  go_wp2_with fail
  with_reducible refine OP.mono ?_
  rintro e V ⟨⟨q1, rfl, hq1, hJ1⟩, hbV⟩
  clear OP
  have HJ1 : Hid (IsJ V [q1, p, B] q1 p 0 1 (opn (newS 6).cs 0 1)) := hJ1
  have HbV : Hid (Below U.heap.size U V) := hbV
  have q1l : q1 < V.heap.size := by obtain ⟨_, h, _⟩ := hJ1; exact lt_of_heap h
  have hUV := hbV.size
  have OQ := open_ok (HF.out.next hbV) rfl 3 3 (by omega) (by omega) [q1, p, B] (by simp; omega)
  rw [show ((3 : Nat) : Int) = 3 from rfl] at OQ
  clear hJ1 hbV
  go_wp2_with fail
  with_reducible refine OQ.mono ?_
  rintro e X ⟨⟨q2, rfl, hq2, hJ2⟩, hbX⟩
  clear OQ
  have HJ2 : Hid (IsJ X [q2, q1, p, B] q2 p 3 1 (opn (newS 6).cs 3 1)) := hJ2
  have HJ1' : Hid (IsJ X [q2, q1, p, B] q1 p 0 1 (opn (newS 6).cs 0 1)) := HJ1.out.wider hbX q2 hq2
  have HbX : Hid (Below V.heap.size V X) := hbX
  have q2l : q2 < X.heap.size := by obtain ⟨_, h, _⟩ := hJ2; exact lt_of_heap h
  have hVX := hbX.size
  have RN := rnew_any 2 X
  rw [show ((2 : Nat) : Int) = 2 from rfl] at RN
  clear hJ2 hbX HJ1
  go_wp2_with fail
  with_reducible refine RN.mono ?_
  rintro e X2 ⟨rfl, hM1, hK1⟩
  clear RN
  have RN := rnew_any 3 X2
  rw [show ((3 : Nat) : Int) = 3 from rfl] at RN
  have HM1 : Hid (IsM X2 (X.heap.size + 1) X.heap.size 2 all0) := hM1
  have HK1 : Hid (Kp [] X X2) := hK1
  have dl : X.heap.size + 1 < X2.heap.size := lt_of_heap hM1.top
  clear hM1 hK1
  go_wp2_with fail
  with_reducible refine RN.mono ?_
  rintro e X3 ⟨rfl, hM2, hK2⟩
  clear RN
  have HT0 : Hid (Two w X3 p B q1 q2 (X.heap.size + 1) X.heap.size (X2.heap.size + 1) X2.heap.size (opn (newS 6).cs 0 1) (opn (newS 6).cs 3 1) (newS 6) (140000 * 0)) := by
    have b3 : Below X.heap.size X X3 := Below.andThen HK1.out.bel hK2.bel
    have F3 := ((HF.out.next HbV.out).next HbX.out).next b3
    have w1 := HU.out.size
    have o1 := Go.Proofs.Ytgpbmccjcjoijaa.opened (first := 0) (count := 2) HF.out.oct HF.out.len (by omega) (by omega)
    have o2 := Go.Proofs.Ytgpbmccjcjoijaa.opened (first := 3) (count := 3) HF.out.oct HF.out.len (by omega) (by omega)
    refine ⟨Below.andThen (Below.andThen (Below.andThen HU.out HbV.out) HbX.out) b3, F3, ⟨by decide, by decide, by decide, by decide⟩, rfl, rfl, Jat.next ⟨HJ1'.out, o1.1, by omega, by omega, by simp, by simp, by simp, by simp; omega⟩ b3, Jat.next ⟨HJ2.out, o2.1, by omega, by omega, by simp, by simp, by simp, by simp; omega⟩ b3, o1.2, o2.2, ?_, ?_, by simp; omega, by simp; omega, by simp; omega, by omega⟩
    · rw [show (opn (newS 6).cs 0 1).all = all0 from new_blank 6 0 1]; exact HM1.out.next hK2.bel
    · rw [show (opn (newS 6).cs 3 1).all = all0 from new_blank 6 3 1]; exact hM2
  clear HF HU HJ1' HJ2 HbV HbX HM1 HK1 hM2 hK2
  generalize (opn (newS 6).cs 0 1) = J1 at *
  generalize (opn (newS 6).cs 3 1) = J2 at *
  generalize newS 6 = S0 at *
  generalize X.heap.size + 1 = D0 at *
  generalize X.heap.size = E0 at *
  generalize X2.heap.size + 1 = D1 at *
  generalize X2.heap.size = E1 at *
  go_wp2_with fail
  go_loopw [11, 12, 13] (fun vm vn vi wr => ∃ (i d db f fb : Nat) (j1 j2 : JS) (s : FS), i ≤ la + lb ∧ vi = .int .i64 i ∧ vm = .pointer (some ⟨d, 0, none⟩) ∧ vn = .pointer (some ⟨f, 0, none⟩) ∧ Two w wr p B q1 q2 d db f fb j1 j2 s (140000 * i)) (fun _ _ vi _ => la + lb - (intOf vi).toNat)
  case atStart => exact ⟨0, D0, E0, D1, E1, J1, J2, S0, by omega, rfl, rfl, rfl, HT0.out⟩
  case round =>
    obtain ⟨i, d, db, f, fb, j1, j2, s, hi, rfl, rfl, rfl, hT⟩ := hrel
    have HT : Hid (Two w wr p B q1 q2 d db f fb j1 j2 s (140000 * i)) := hT
    clear hT HT0
    have gi : (0 : Int) ≤ i := by omega
    by_cases hend : i < la ∨ i < lb
    · by_cases hlt1 : i < la
      · have gl1 : (i : Int) < (la : Int) := by omega
        obtain ⟨b1, off1, x1, ab1, cb1, hm1, rfl, hX⟩ := Ho1.out.gets i hlt1
        have HX1 : Hid (∀ W, Below w.heap.size w W → W.cell? ⟨b1, off1 + i * 4, none⟩ = some (.int .u8 x1.kind) ∧ W.cell? ⟨b1, off1 + i * 4 + 1, none⟩ = some (.int .u8 x1.grp) ∧ W.cell? ⟨b1, off1 + i * 4 + 2, none⟩ = some (.slice ab1 x1.bs.length cb1) ∧ W.cell? ⟨b1, off1 + i * 4 + 3, none⟩ = some (.int .u16 x1.more) ∧ Row W ab1 x1.bs.length x1.bs) := hX
        clear hX
        have hx1 : x1.Ok := (Ho1.out.ok x1 hm1).ok (HL1.out x1 hm1)
        have k10 := hx1.k0
        by_cases h14 : x1.kind % 6 < 4
        · have h14' : x1.kind.tmod 6 < 4 := by rw [Int.tmod_eq_emod_of_nonneg k10.1]; exact h14
          by_cases hlt2 : i < lb
          · have gl2 : (i : Int) < (lb : Int) := by omega
            obtain ⟨b2, off2, x2, ab2, cb2, hm2, rfl, hX⟩ := Ho2.out.gets i hlt2
            have HX2 : Hid (∀ W, Below w.heap.size w W → W.cell? ⟨b2, off2 + i * 4, none⟩ = some (.int .u8 x2.kind) ∧ W.cell? ⟨b2, off2 + i * 4 + 1, none⟩ = some (.int .u8 x2.grp) ∧ W.cell? ⟨b2, off2 + i * 4 + 2, none⟩ = some (.slice ab2 x2.bs.length cb2) ∧ W.cell? ⟨b2, off2 + i * 4 + 3, none⟩ = some (.int .u16 x2.more) ∧ Row W ab2 x2.bs.length x2.bs) := hX
            clear hX
            have hx2 : x2.Ok := (Ho2.out.ok x2 hm2).ok (HL2.out x2 hm2)
            have k20 := hx2.k0
            by_cases h24 : x2.kind % 6 < 4
            · have h24' : x2.kind.tmod 6 < 4 := by rw [Int.tmod_eq_emod_of_nonneg k20.1]; exact h24
              obtain ⟨p10, p11, p12, p13, r1⟩ := HX1.out wr HT.out.bel
              obtain ⟨p20, p21, p22, p23, r2⟩ := HX2.out wr HT.out.bel
              have WD := would_any HT.out.m1 HT.out.a1.op.grp.lens (by omega) (by omega) x1 hx1 ab1 x1.bs.length cb1 r1
              clear r1
              go_wp2_with fail
              with_reducible refine WD.mono ?_
              rintro e Y1 ⟨d1, db1, rfl, hd, hdb, hM, hK⟩
              clear WD
              have HY : Hid (Two w Y1 p B q1 q2 d db f fb j1 j2 s (140000 * i)) := HT.out.next hK.bel
              have HST : Hid (∀ e Z, KeepPost Y1 p B 6 6 q1 0 1 [q2, q1, p, B] (doesJ 6 0 1 j1 x1 s) e Z → e = .returned (.int .i64 (doesM 2 j1.all x1).1) ∧ ∃ j' s', Two w Z p B q1 q2 d1 db1 f fb j' j2 s' ((140000 * i) + 70000)) := fun e Z hp => Two.one HT.out x1 hx1 hK hd hdb hM hp
              clear p10 p11 p12 p13
              obtain ⟨p10, p11, p12, p13, r1⟩ := HX1.out Y1 HY.out.bel
              clear p20 p21 p22 p23
              clear r2
              obtain ⟨p20, p21, p22, p23, r2⟩ := HX2.out Y1 HY.out.bel
              have DS := does_any HY.out.fs (140000 * i) HY.out.le (by have := hi; omega) HY.out.a1.js HY.out.a1.op.ok HY.out.a1.qp HY.out.a1.qB (by omega) (by omega) (by omega) HY.out.a1.pS HY.out.a1.BS HY.out.a1.qS HY.out.a1.lt x1 hx1 ab1 x1.bs.length cb1 r1
              obtain ⟨E1, hE1⟩ : ∃ E, Hid ((doesM 2 j1.all x1).1 = E) := ⟨_, rfl⟩
              rw [hE1.out] at HST
              rw [hE1.out]
              have eE1 : (E1 != E1) = false := by simp
              clear hd hdb hM hK r1
              go_wp2_with fail
              with_reducible refine DS.mono ?_
              rintro e Z1 hp
              obtain ⟨rfl, k1, s1, hTn⟩ := HST.out e Z1 hp
              have HT1 : Hid (Two w Z1 p B q1 q2 d1 db1 f fb k1 j2 s1 ((140000 * i) + 70000)) := hTn
              clear DS hp hTn HST HY
              clear p10 p11 p12 p13
              clear p20 p21 p22 p23
              clear r2
              obtain ⟨p20, p21, p22, p23, r2⟩ := HX2.out Z1 HT1.out.bel
              have WD := would_any HT1.out.m2 HT1.out.a2.op.grp.lens (by omega) (by omega) x2 hx2 ab2 x2.bs.length cb2 r2
              clear r2
              go_wp2_with fail
              with_reducible refine WD.mono ?_
              rintro e Y2 ⟨f1, fb1, rfl, hd, hdb, hM, hK⟩
              clear WD
              have HY : Hid (Two w Y2 p B q1 q2 d1 db1 f fb k1 j2 s1 ((140000 * i) + 70000)) := HT1.out.next hK.bel
              have HST : Hid (∀ e Z, KeepPost Y2 p B 6 6 q2 3 1 [q2, q1, p, B] (doesJ 6 3 1 j2 x2 s1) e Z → e = .returned (.int .i64 (doesM 3 j2.all x2).1) ∧ ∃ j' s', Two w Z p B q1 q2 d1 db1 f1 fb1 k1 j' s' (((140000 * i) + 70000) + 70000)) := fun e Z hp => Two.two HT1.out x2 hx2 hK hd hdb hM hp
              clear p20 p21 p22 p23
              obtain ⟨p20, p21, p22, p23, r2⟩ := HX2.out Y2 HY.out.bel
              have DS := does_any HY.out.fs ((140000 * i) + 70000) HY.out.le (by have := hi; omega) HY.out.a2.js HY.out.a2.op.ok HY.out.a2.qp HY.out.a2.qB (by omega) (by omega) (by omega) HY.out.a2.pS HY.out.a2.BS HY.out.a2.qS HY.out.a2.lt x2 hx2 ab2 x2.bs.length cb2 r2
              obtain ⟨E2, hE2⟩ : ∃ E, Hid ((doesM 3 j2.all x2).1 = E) := ⟨_, rfl⟩
              rw [hE2.out] at HST
              rw [hE2.out]
              have eE2 : (E2 != E2) = false := by simp
              clear hd hdb hM hK r2
              go_wp2_with fail
              with_reducible refine DS.mono ?_
              rintro e Z2 hp
              obtain ⟨rfl, k2, s2, hTn⟩ := HST.out e Z2 hp
              have HT2 : Hid (Two w Z2 p B q1 q2 d1 db1 f1 fb1 k1 k2 s2 (((140000 * i) + 70000) + 70000)) := hTn
              clear DS hp hTn HST HY
              clear p20 p21 p22 p23
              have SA := same_any HT2.out.a1.js HT2.out.m1 HT2.out.a1.op.grp.octs
              rw [agr_refl] at SA
              go_wp2_with fail
              with_reducible refine SA.mono ?_
              rintro e V ⟨rfl, hV⟩
              clear SA
              have HV := HT2.out.next hV
              have SB := same_any HV.a2.js HV.m2 HV.a2.op.grp.octs
              rw [agr_refl] at SB
              have HV : Hid (Two w V p B q1 q2 d1 db1 f1 fb1 k1 k2 s2 (((140000 * i) + 70000) + 70000)) := HV
              clear hV
              go_wp2_with fail
              with_reducible refine SB.mono ?_
              rintro e V2 ⟨rfl, hV2⟩
              clear SB
              have HN : Hid (Two w V2 p B q1 q2 d1 db1 f1 fb1 k1 k2 s2 (140000 * (i + 1))) := (HV.out.next hV2).more (by omega)
              clear hV2
              go_wp2_with fail
              exact ⟨⟨i + 1, d1, db1, f1, fb1, k1, k2, s2, by omega, by go_num, rfl, rfl, HN.out⟩, by simp [intOf]; omega⟩
            · have h24' : ¬ x2.kind.tmod 6 < 4 := by rw [Int.tmod_eq_emod_of_nonneg k20.1]; exact h24
              obtain ⟨p10, p11, p12, p13, r1⟩ := HX1.out wr HT.out.bel
              obtain ⟨p20, p21, p22, p23, r2⟩ := HX2.out wr HT.out.bel
              clear p21 p22 p23 r2
              have WD := would_any HT.out.m1 HT.out.a1.op.grp.lens (by omega) (by omega) x1 hx1 ab1 x1.bs.length cb1 r1
              clear r1
              go_wp2_with fail
              with_reducible refine WD.mono ?_
              rintro e Y1 ⟨d1, db1, rfl, hd, hdb, hM, hK⟩
              clear WD
              have HY : Hid (Two w Y1 p B q1 q2 d db f fb j1 j2 s (140000 * i)) := HT.out.next hK.bel
              have HST : Hid (∀ e Z, KeepPost Y1 p B 6 6 q1 0 1 [q2, q1, p, B] (doesJ 6 0 1 j1 x1 s) e Z → e = .returned (.int .i64 (doesM 2 j1.all x1).1) ∧ ∃ j' s', Two w Z p B q1 q2 d1 db1 f fb j' j2 s' ((140000 * i) + 70000)) := fun e Z hp => Two.one HT.out x1 hx1 hK hd hdb hM hp
              clear p10 p11 p12 p13
              obtain ⟨p10, p11, p12, p13, r1⟩ := HX1.out Y1 HY.out.bel
              clear p20
              obtain ⟨p20, p21, p22, p23, r2⟩ := HX2.out Y1 HY.out.bel
              clear p21 p22 p23 r2
              have DS := does_any HY.out.fs (140000 * i) HY.out.le (by have := hi; omega) HY.out.a1.js HY.out.a1.op.ok HY.out.a1.qp HY.out.a1.qB (by omega) (by omega) (by omega) HY.out.a1.pS HY.out.a1.BS HY.out.a1.qS HY.out.a1.lt x1 hx1 ab1 x1.bs.length cb1 r1
              obtain ⟨E1, hE1⟩ : ∃ E, Hid ((doesM 2 j1.all x1).1 = E) := ⟨_, rfl⟩
              rw [hE1.out] at HST
              rw [hE1.out]
              have eE1 : (E1 != E1) = false := by simp
              clear hd hdb hM hK r1
              go_wp2_with fail
              with_reducible refine DS.mono ?_
              rintro e Z1 hp
              obtain ⟨rfl, k1, s1, hTn⟩ := HST.out e Z1 hp
              have HT1 : Hid (Two w Z1 p B q1 q2 d1 db1 f fb k1 j2 s1 ((140000 * i) + 70000)) := hTn
              clear DS hp hTn HST HY
              clear p10 p11 p12 p13
              clear p20
              obtain ⟨p20, p21, p22, p23, r2⟩ := HX2.out Z1 HT1.out.bel
              clear p21 p22 p23 r2
              have SA := same_any HT1.out.a1.js HT1.out.m1 HT1.out.a1.op.grp.octs
              rw [agr_refl] at SA
              go_wp2_with fail
              with_reducible refine SA.mono ?_
              rintro e V ⟨rfl, hV⟩
              clear SA
              have HV := HT1.out.next hV
              have SB := same_any HV.a2.js HV.m2 HV.a2.op.grp.octs
              rw [agr_refl] at SB
              have HV : Hid (Two w V p B q1 q2 d1 db1 f fb k1 j2 s1 ((140000 * i) + 70000)) := HV
              clear hV
              go_wp2_with fail
              with_reducible refine SB.mono ?_
              rintro e V2 ⟨rfl, hV2⟩
              clear SB
              have HN : Hid (Two w V2 p B q1 q2 d1 db1 f fb k1 j2 s1 (140000 * (i + 1))) := (HV.out.next hV2).more (by omega)
              clear hV2
              go_wp2_with fail
              exact ⟨⟨i + 1, d1, db1, f, fb, k1, j2, s1, by omega, by go_num, rfl, rfl, HN.out⟩, by simp [intOf]; omega⟩
          · have gl2 : ¬ (i : Int) < (lb : Int) := by omega
            obtain ⟨p10, p11, p12, p13, r1⟩ := HX1.out wr HT.out.bel
            have WD := would_any HT.out.m1 HT.out.a1.op.grp.lens (by omega) (by omega) x1 hx1 ab1 x1.bs.length cb1 r1
            clear r1
            go_wp2_with fail
            with_reducible refine WD.mono ?_
            rintro e Y1 ⟨d1, db1, rfl, hd, hdb, hM, hK⟩
            clear WD
            have HY : Hid (Two w Y1 p B q1 q2 d db f fb j1 j2 s (140000 * i)) := HT.out.next hK.bel
            have HST : Hid (∀ e Z, KeepPost Y1 p B 6 6 q1 0 1 [q2, q1, p, B] (doesJ 6 0 1 j1 x1 s) e Z → e = .returned (.int .i64 (doesM 2 j1.all x1).1) ∧ ∃ j' s', Two w Z p B q1 q2 d1 db1 f fb j' j2 s' ((140000 * i) + 70000)) := fun e Z hp => Two.one HT.out x1 hx1 hK hd hdb hM hp
            clear p10 p11 p12 p13
            obtain ⟨p10, p11, p12, p13, r1⟩ := HX1.out Y1 HY.out.bel
            have DS := does_any HY.out.fs (140000 * i) HY.out.le (by have := hi; omega) HY.out.a1.js HY.out.a1.op.ok HY.out.a1.qp HY.out.a1.qB (by omega) (by omega) (by omega) HY.out.a1.pS HY.out.a1.BS HY.out.a1.qS HY.out.a1.lt x1 hx1 ab1 x1.bs.length cb1 r1
            obtain ⟨E1, hE1⟩ : ∃ E, Hid ((doesM 2 j1.all x1).1 = E) := ⟨_, rfl⟩
            rw [hE1.out] at HST
            rw [hE1.out]
            have eE1 : (E1 != E1) = false := by simp
            clear hd hdb hM hK r1
            go_wp2_with fail
            with_reducible refine DS.mono ?_
            rintro e Z1 hp
            obtain ⟨rfl, k1, s1, hTn⟩ := HST.out e Z1 hp
            have HT1 : Hid (Two w Z1 p B q1 q2 d1 db1 f fb k1 j2 s1 ((140000 * i) + 70000)) := hTn
            clear DS hp hTn HST HY
            clear p10 p11 p12 p13
            have SA := same_any HT1.out.a1.js HT1.out.m1 HT1.out.a1.op.grp.octs
            rw [agr_refl] at SA
            go_wp2_with fail
            with_reducible refine SA.mono ?_
            rintro e V ⟨rfl, hV⟩
            clear SA
            have HV := HT1.out.next hV
            have SB := same_any HV.a2.js HV.m2 HV.a2.op.grp.octs
            rw [agr_refl] at SB
            have HV : Hid (Two w V p B q1 q2 d1 db1 f fb k1 j2 s1 ((140000 * i) + 70000)) := HV
            clear hV
            go_wp2_with fail
            with_reducible refine SB.mono ?_
            rintro e V2 ⟨rfl, hV2⟩
            clear SB
            have HN : Hid (Two w V2 p B q1 q2 d1 db1 f fb k1 j2 s1 (140000 * (i + 1))) := (HV.out.next hV2).more (by omega)
            clear hV2
            go_wp2_with fail
            exact ⟨⟨i + 1, d1, db1, f, fb, k1, j2, s1, by omega, by go_num, rfl, rfl, HN.out⟩, by simp [intOf]; omega⟩
        · have h14' : ¬ x1.kind.tmod 6 < 4 := by rw [Int.tmod_eq_emod_of_nonneg k10.1]; exact h14
          by_cases hlt2 : i < lb
          · have gl2 : (i : Int) < (lb : Int) := by omega
            obtain ⟨b2, off2, x2, ab2, cb2, hm2, rfl, hX⟩ := Ho2.out.gets i hlt2
            have HX2 : Hid (∀ W, Below w.heap.size w W → W.cell? ⟨b2, off2 + i * 4, none⟩ = some (.int .u8 x2.kind) ∧ W.cell? ⟨b2, off2 + i * 4 + 1, none⟩ = some (.int .u8 x2.grp) ∧ W.cell? ⟨b2, off2 + i * 4 + 2, none⟩ = some (.slice ab2 x2.bs.length cb2) ∧ W.cell? ⟨b2, off2 + i * 4 + 3, none⟩ = some (.int .u16 x2.more) ∧ Row W ab2 x2.bs.length x2.bs) := hX
            clear hX
            have hx2 : x2.Ok := (Ho2.out.ok x2 hm2).ok (HL2.out x2 hm2)
            have k20 := hx2.k0
            by_cases h24 : x2.kind % 6 < 4
            · have h24' : x2.kind.tmod 6 < 4 := by rw [Int.tmod_eq_emod_of_nonneg k20.1]; exact h24
              obtain ⟨p10, p11, p12, p13, r1⟩ := HX1.out wr HT.out.bel
              clear p11 p12 p13 r1
              obtain ⟨p20, p21, p22, p23, r2⟩ := HX2.out wr HT.out.bel
              have WD := would_any HT.out.m2 HT.out.a2.op.grp.lens (by omega) (by omega) x2 hx2 ab2 x2.bs.length cb2 r2
              clear r2
              go_wp2_with fail
              with_reducible refine WD.mono ?_
              rintro e Y2 ⟨f1, fb1, rfl, hd, hdb, hM, hK⟩
              clear WD
              have HY : Hid (Two w Y2 p B q1 q2 d db f fb j1 j2 s (140000 * i)) := HT.out.next hK.bel
              have HST : Hid (∀ e Z, KeepPost Y2 p B 6 6 q2 3 1 [q2, q1, p, B] (doesJ 6 3 1 j2 x2 s) e Z → e = .returned (.int .i64 (doesM 3 j2.all x2).1) ∧ ∃ j' s', Two w Z p B q1 q2 d db f1 fb1 j1 j' s' ((140000 * i) + 70000)) := fun e Z hp => Two.two HT.out x2 hx2 hK hd hdb hM hp
              clear p20 p21 p22 p23
              obtain ⟨p20, p21, p22, p23, r2⟩ := HX2.out Y2 HY.out.bel
              have DS := does_any HY.out.fs (140000 * i) HY.out.le (by have := hi; omega) HY.out.a2.js HY.out.a2.op.ok HY.out.a2.qp HY.out.a2.qB (by omega) (by omega) (by omega) HY.out.a2.pS HY.out.a2.BS HY.out.a2.qS HY.out.a2.lt x2 hx2 ab2 x2.bs.length cb2 r2
              obtain ⟨E2, hE2⟩ : ∃ E, Hid ((doesM 3 j2.all x2).1 = E) := ⟨_, rfl⟩
              rw [hE2.out] at HST
              rw [hE2.out]
              have eE2 : (E2 != E2) = false := by simp
              clear hd hdb hM hK r2
              go_wp2_with fail
              with_reducible refine DS.mono ?_
              rintro e Z2 hp
              obtain ⟨rfl, k2, s2, hTn⟩ := HST.out e Z2 hp
              have HT2 : Hid (Two w Z2 p B q1 q2 d db f1 fb1 j1 k2 s2 ((140000 * i) + 70000)) := hTn
              clear DS hp hTn HST HY
              clear p20 p21 p22 p23
              have SA := same_any HT2.out.a1.js HT2.out.m1 HT2.out.a1.op.grp.octs
              rw [agr_refl] at SA
              go_wp2_with fail
              with_reducible refine SA.mono ?_
              rintro e V ⟨rfl, hV⟩
              clear SA
              have HV := HT2.out.next hV
              have SB := same_any HV.a2.js HV.m2 HV.a2.op.grp.octs
              rw [agr_refl] at SB
              have HV : Hid (Two w V p B q1 q2 d db f1 fb1 j1 k2 s2 ((140000 * i) + 70000)) := HV
              clear hV
              go_wp2_with fail
              with_reducible refine SB.mono ?_
              rintro e V2 ⟨rfl, hV2⟩
              clear SB
              have HN : Hid (Two w V2 p B q1 q2 d db f1 fb1 j1 k2 s2 (140000 * (i + 1))) := (HV.out.next hV2).more (by omega)
              clear hV2
              go_wp2_with fail
              exact ⟨⟨i + 1, d, db, f1, fb1, j1, k2, s2, by omega, by go_num, rfl, rfl, HN.out⟩, by simp [intOf]; omega⟩
            · have h24' : ¬ x2.kind.tmod 6 < 4 := by rw [Int.tmod_eq_emod_of_nonneg k20.1]; exact h24
              obtain ⟨p10, p11, p12, p13, r1⟩ := HX1.out wr HT.out.bel
              clear p11 p12 p13 r1
              obtain ⟨p20, p21, p22, p23, r2⟩ := HX2.out wr HT.out.bel
              clear p21 p22 p23 r2
              have SA := same_any HT.out.a1.js HT.out.m1 HT.out.a1.op.grp.octs
              rw [agr_refl] at SA
              go_wp2_with fail
              with_reducible refine SA.mono ?_
              rintro e V ⟨rfl, hV⟩
              clear SA
              have HV := HT.out.next hV
              have SB := same_any HV.a2.js HV.m2 HV.a2.op.grp.octs
              rw [agr_refl] at SB
              have HV : Hid (Two w V p B q1 q2 d db f fb j1 j2 s (140000 * i)) := HV
              clear hV
              go_wp2_with fail
              with_reducible refine SB.mono ?_
              rintro e V2 ⟨rfl, hV2⟩
              clear SB
              have HN : Hid (Two w V2 p B q1 q2 d db f fb j1 j2 s (140000 * (i + 1))) := (HV.out.next hV2).more (by omega)
              clear hV2
              go_wp2_with fail
              exact ⟨⟨i + 1, d, db, f, fb, j1, j2, s, by omega, by go_num, rfl, rfl, HN.out⟩, by simp [intOf]; omega⟩
          · have gl2 : ¬ (i : Int) < (lb : Int) := by omega
            obtain ⟨p10, p11, p12, p13, r1⟩ := HX1.out wr HT.out.bel
            clear p11 p12 p13 r1
            have SA := same_any HT.out.a1.js HT.out.m1 HT.out.a1.op.grp.octs
            rw [agr_refl] at SA
            go_wp2_with fail
            with_reducible refine SA.mono ?_
            rintro e V ⟨rfl, hV⟩
            clear SA
            have HV := HT.out.next hV
            have SB := same_any HV.a2.js HV.m2 HV.a2.op.grp.octs
            rw [agr_refl] at SB
            have HV : Hid (Two w V p B q1 q2 d db f fb j1 j2 s (140000 * i)) := HV
            clear hV
            go_wp2_with fail
            with_reducible refine SB.mono ?_
            rintro e V2 ⟨rfl, hV2⟩
            clear SB
            have HN : Hid (Two w V2 p B q1 q2 d db f fb j1 j2 s (140000 * (i + 1))) := (HV.out.next hV2).more (by omega)
            clear hV2
            go_wp2_with fail
            exact ⟨⟨i + 1, d, db, f, fb, j1, j2, s, by omega, by go_num, rfl, rfl, HN.out⟩, by simp [intOf]; omega⟩
      · have gl1 : ¬ (i : Int) < (la : Int) := by omega
        by_cases hlt2 : i < lb
        · have gl2 : (i : Int) < (lb : Int) := by omega
          obtain ⟨b2, off2, x2, ab2, cb2, hm2, rfl, hX⟩ := Ho2.out.gets i hlt2
          have HX2 : Hid (∀ W, Below w.heap.size w W → W.cell? ⟨b2, off2 + i * 4, none⟩ = some (.int .u8 x2.kind) ∧ W.cell? ⟨b2, off2 + i * 4 + 1, none⟩ = some (.int .u8 x2.grp) ∧ W.cell? ⟨b2, off2 + i * 4 + 2, none⟩ = some (.slice ab2 x2.bs.length cb2) ∧ W.cell? ⟨b2, off2 + i * 4 + 3, none⟩ = some (.int .u16 x2.more) ∧ Row W ab2 x2.bs.length x2.bs) := hX
          clear hX
          have hx2 : x2.Ok := (Ho2.out.ok x2 hm2).ok (HL2.out x2 hm2)
          have k20 := hx2.k0
          by_cases h24 : x2.kind % 6 < 4
          · have h24' : x2.kind.tmod 6 < 4 := by rw [Int.tmod_eq_emod_of_nonneg k20.1]; exact h24
            obtain ⟨p20, p21, p22, p23, r2⟩ := HX2.out wr HT.out.bel
            have WD := would_any HT.out.m2 HT.out.a2.op.grp.lens (by omega) (by omega) x2 hx2 ab2 x2.bs.length cb2 r2
            clear r2
            go_wp2_with fail
            with_reducible refine WD.mono ?_
            rintro e Y2 ⟨f1, fb1, rfl, hd, hdb, hM, hK⟩
            clear WD
            have HY : Hid (Two w Y2 p B q1 q2 d db f fb j1 j2 s (140000 * i)) := HT.out.next hK.bel
            have HST : Hid (∀ e Z, KeepPost Y2 p B 6 6 q2 3 1 [q2, q1, p, B] (doesJ 6 3 1 j2 x2 s) e Z → e = .returned (.int .i64 (doesM 3 j2.all x2).1) ∧ ∃ j' s', Two w Z p B q1 q2 d db f1 fb1 j1 j' s' ((140000 * i) + 70000)) := fun e Z hp => Two.two HT.out x2 hx2 hK hd hdb hM hp
            clear p20 p21 p22 p23
            obtain ⟨p20, p21, p22, p23, r2⟩ := HX2.out Y2 HY.out.bel
            have DS := does_any HY.out.fs (140000 * i) HY.out.le (by have := hi; omega) HY.out.a2.js HY.out.a2.op.ok HY.out.a2.qp HY.out.a2.qB (by omega) (by omega) (by omega) HY.out.a2.pS HY.out.a2.BS HY.out.a2.qS HY.out.a2.lt x2 hx2 ab2 x2.bs.length cb2 r2
            obtain ⟨E2, hE2⟩ : ∃ E, Hid ((doesM 3 j2.all x2).1 = E) := ⟨_, rfl⟩
            rw [hE2.out] at HST
            rw [hE2.out]
            have eE2 : (E2 != E2) = false := by simp
            clear hd hdb hM hK r2
            go_wp2_with fail
            with_reducible refine DS.mono ?_
            rintro e Z2 hp
            obtain ⟨rfl, k2, s2, hTn⟩ := HST.out e Z2 hp
            have HT2 : Hid (Two w Z2 p B q1 q2 d db f1 fb1 j1 k2 s2 ((140000 * i) + 70000)) := hTn
            clear DS hp hTn HST HY
            clear p20 p21 p22 p23
            have SA := same_any HT2.out.a1.js HT2.out.m1 HT2.out.a1.op.grp.octs
            rw [agr_refl] at SA
            go_wp2_with fail
            with_reducible refine SA.mono ?_
            rintro e V ⟨rfl, hV⟩
            clear SA
            have HV := HT2.out.next hV
            have SB := same_any HV.a2.js HV.m2 HV.a2.op.grp.octs
            rw [agr_refl] at SB
            have HV : Hid (Two w V p B q1 q2 d db f1 fb1 j1 k2 s2 ((140000 * i) + 70000)) := HV
            clear hV
            go_wp2_with fail
            with_reducible refine SB.mono ?_
            rintro e V2 ⟨rfl, hV2⟩
            clear SB
            have HN : Hid (Two w V2 p B q1 q2 d db f1 fb1 j1 k2 s2 (140000 * (i + 1))) := (HV.out.next hV2).more (by omega)
            clear hV2
            go_wp2_with fail
            exact ⟨⟨i + 1, d, db, f1, fb1, j1, k2, s2, by omega, by go_num, rfl, rfl, HN.out⟩, by simp [intOf]; omega⟩
          · have h24' : ¬ x2.kind.tmod 6 < 4 := by rw [Int.tmod_eq_emod_of_nonneg k20.1]; exact h24
            obtain ⟨p20, p21, p22, p23, r2⟩ := HX2.out wr HT.out.bel
            clear p21 p22 p23 r2
            have SA := same_any HT.out.a1.js HT.out.m1 HT.out.a1.op.grp.octs
            rw [agr_refl] at SA
            go_wp2_with fail
            with_reducible refine SA.mono ?_
            rintro e V ⟨rfl, hV⟩
            clear SA
            have HV := HT.out.next hV
            have SB := same_any HV.a2.js HV.m2 HV.a2.op.grp.octs
            rw [agr_refl] at SB
            have HV : Hid (Two w V p B q1 q2 d db f fb j1 j2 s (140000 * i)) := HV
            clear hV
            go_wp2_with fail
            with_reducible refine SB.mono ?_
            rintro e V2 ⟨rfl, hV2⟩
            clear SB
            have HN : Hid (Two w V2 p B q1 q2 d db f fb j1 j2 s (140000 * (i + 1))) := (HV.out.next hV2).more (by omega)
            clear hV2
            go_wp2_with fail
            exact ⟨⟨i + 1, d, db, f, fb, j1, j2, s, by omega, by go_num, rfl, rfl, HN.out⟩, by simp [intOf]; omega⟩
        · have gl2 : ¬ (i : Int) < (lb : Int) := by omega
          exact absurd hend (by omega)
    · have gl1 : ¬ (i : Int) < (la : Int) := by omega
      have gl2 : ¬ (i : Int) < (lb : Int) := by omega
      have hlT := HT.out.lt
      have hlpB : ∀ x ∈ [p, B], x < wr.heap.size := fun x hx => hlT x (by simp at hx ⊢; omega)
      have OA := open_ok HT.out.fs HT.out.of 0 2 (by omega) (by omega) [p, B] hlpB
      rw [show ((0 : Nat) : Int) = 0 from rfl, show ((2 : Nat) : Int) = 2 from rfl, show 2 / 2 = 1 from rfl, ] at OA
      have HlpB : Hid (∀ x ∈ [p, B], x < wr.heap.size) := hlpB
      clear hlT hlpB
      go_wp2_with fail
      with_reducible refine OA.mono ?_
      rintro e V ⟨⟨q3, rfl, hq3, hJ3⟩, hbV⟩
      clear OA
      have T1 := HT.out.next hbV
      have HJ3 : Hid (IsJ V [q3, p, B] q3 p 0 1 (opn s.cs 0 1)) := hJ3
      have HT1 : Hid (Two w V p B q1 q2 d db f fb j1 j2 s (140000 * i)) := T1
      have OB := open_ok T1.fs T1.of 3 3 (by omega) (by omega) [p, B] (fun x hx => Nat.lt_of_lt_of_le (HlpB.out x hx) hbV.size)
      rw [show ((3 : Nat) : Int) = 3 from rfl, show 3 / 2 = 1 from rfl] at OB
      clear T1 hJ3 hbV
      go_wp2_with fail
      with_reducible refine OB.mono ?_
      rintro e V2 ⟨⟨q4, rfl, hq4, hJ4⟩, hb4⟩
      clear OB
      have HT2 : Hid (Two w V2 p B q1 q2 d db f fb j1 j2 s (140000 * i)) := HT1.out.next hb4
      have HJ3b : Hid (IsJ V2 [q3, p, B] q3 p 0 1 (opn s.cs 0 1)) := HJ3.out.next hb4
      have HJ4 : Hid (IsJ V2 [q4, p, B] q4 p 3 1 (opn s.cs 3 1)) := hJ4
      have RO := ropened_any HT2.out.m1
      clear hJ4 hb4 HJ3 HT1
      go_wp2_with fail
      with_reducible refine RO.mono ?_
      rintro e V3 ⟨rfl, hM3, hK3⟩
      clear RO
      have HT3 : Hid (Two w V3 p B q1 q2 d db f fb j1 j2 s (140000 * i)) := HT2.out.next hK3.bel
      have HJ4b : Hid (IsJ V3 [q4, p, B] q4 p 3 1 (opn s.cs 3 1)) := HJ4.out.next hK3.bel
      have SA := same_any (HJ3b.out.next hK3.bel) hM3 (by rw [← HT.out.a1.op.again]; exact (opn_drop HT.out.fs.oct 0 1).2.octs)
      rw [HT.out.a1.op.again, agr_refl] at SA
      clear hM3 hK3
      go_wp2_with fail
      with_reducible refine SA.mono ?_
      rintro e V4 ⟨rfl, hb5⟩
      clear SA
      have HT4 : Hid (Two w V4 p B q1 q2 d db f fb j1 j2 s (140000 * i)) := HT3.out.next hb5
      have HJ4c : Hid (IsJ V4 [q4, p, B] q4 p 3 1 (opn s.cs 3 1)) := HJ4b.out.next hb5
      have RP := ropened_any HT4.out.m2
      clear hb5
      go_wp2_with fail
      with_reducible refine RP.mono ?_
      rintro e V5 ⟨rfl, hM5, hK5⟩
      clear RP
      have HT5 : Hid (Two w V5 p B q1 q2 d db f fb j1 j2 s (140000 * i)) := HT4.out.next hK5.bel
      have SB := same_any (HJ4c.out.next hK5.bel) hM5 (by rw [← HT.out.a2.op.again]; exact (opn_drop HT.out.fs.oct 3 1).2.octs)
      rw [HT.out.a2.op.again, agr_refl] at SB
      clear hM5 hK5
      go_wp2_with fail
      with_reducible refine SB.mono ?_
      rintro e V6 ⟨rfl, hb6⟩
      clear SB
      have HB6 : Hid (Below w.heap.size w V6) := (HT5.out.next hb6).bel
      have WK := works_any V6
      clear hb6
      go_wp2_with fail
      with_reducible refine WK.mono ?_
      rintro e V7 ⟨rfl, hb7⟩
      clear WK
      have HB7 : Hid (Below w.heap.size w V7) := Below.andThen HB6.out hb7
      clear hb7
      go_wp2_with fail
      go_ret
      exact ⟨rfl, HB7.out⟩
#print axioms journalTwo_any
end Go.Proofs.Ytgpbmccjcjoijaa
