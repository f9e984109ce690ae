/-
  The walk of FrameMakes: true of any identifier, bytes, length and frame.
-/
import Derived.Test.YtbjbnfhmehkkpaaWk
import Derived.Test.YtbjbnfhmehkkpaaBs
namespace Go.Proofs.Ytbjbnfhmehkkpaa
open Go.RowKit

theorem mkR_ok (id : Int) (zs : List Int) (h : 0 ≤ id) (ho : Oct zs) : 0 ≤ (mkR id zs).i ∧ Oct (mkR id zs).ds := by
  unfold mkR
  split
  · refine ⟨h, ?_⟩
    intro n hn
    simp only [FrR.ds, List.mem_cons, List.not_mem_nil, or_false] at hn
    rcases hn with rfl | rfl | rfl | rfl | rfl | rfl | rfl | rfl <;> exact ho.getD _
  · exact ⟨by simp [noFr], fun n hn => by simp [noFr, FrR.ds] at hn; omega⟩
theorem askR_ok (id n : Int) (h : 0 ≤ id) : 0 ≤ (askR id n).i ∧ Oct (askR id n).ds := by
  unfold askR
  split
  · exact ⟨h, fun n hn => by simp [FrR.ds] at hn; omega⟩
  · exact ⟨by simp [noFr], fun n hn => by simp [noFr, FrR.ds] at hn; omega⟩

theorem keep_set {ws : World} {b n j : Nat} (h : ∀ i, i < n → (∃ v, ws.cell? ⟨b, i, none⟩ = some v) ∧ ws.frozen? ⟨b, i, none⟩ = false) (u : Value) :
    ∀ i, i < n → (∃ v, (ws.setCell ⟨b, j, none⟩ u).cell? ⟨b, i, none⟩ = some v) ∧ (ws.setCell ⟨b, j, none⟩ u).frozen? ⟨b, i, none⟩ = false := fun i hi => by
  obtain ⟨⟨v, hv⟩, hz⟩ := h i hi
  refine ⟨?_, by rw [World.frozen?_setCell]; exact hz⟩
  by_cases e : i = j
  · subst e; exact ⟨_, World.cell?_setCell_same _ _ _ hv⟩
  · exact ⟨v, (World.cell?_setCell_other _ _ _ _ (fun h => e (congrArg Addr.off h).symm)).trans hv⟩

set_option maxRecDepth 100000 in
theorem sameBytes_any (a b : Option Addr) (la ca lb cb : Nat) (zs : List Int) (w : World) (ra : Row w a la zs) (rb : Row w b lb zs) :
    Calls Try.prog 11 #[.slice a la ca, .slice b lb cb] w fun e w' => e = .returned (.bool true) ∧ w' = w := by
  have s1 := ra.str ca
  have s2 := rb.str cb
  clear ra rb
  go_enter Try.func11, Try.ntmps11
  go_wp2_with fail
  go_ret
  exact ⟨ret_bool (by simp), rfl⟩

set_option linter.unusedSimpArgs false in
set_option maxHeartbeats 16000000 in
set_option maxRecDepth 100000 in
theorem frameMakes_any (id n : Int) (da : Option Addr) (dl dc : Nat) (zs : List Int) (fi fn ff0 ff1 ff2 ff3 ff4 ff5 ff6 ff7 : Int) (fr : Bool) (w : World) (hr : Row w da dl zs) (hid : 0 ≤ id) (hfi : 0 ≤ fi) (hfo : Oct [ff0, ff1, ff2, ff3, ff4, ff5, ff6, ff7]) :
    Calls Try.prog 3 #[.int .u16 id, .slice da dl dc, .int .i64 n, frV fi fn ff0 ff1 ff2 ff3 ff4 ff5 ff6 ff7 fr] w fun e w' => e = .returned (.bool true) ∧ Below w.heap.size w w' := by
  by_cases h1 : (1000 : Int) < (dl : Int)
  · go_enter Try.func3, Try.ntmps3
    go_wp2_with fail
    go_ret
    exact ⟨rfl, Below.al (Below.refl _ _) _⟩
  obtain ⟨ok1, oo1⟩ := mkR_ok id zs hid hr.oct
  obtain ⟨ok2, oo2⟩ := askR_ok id n hid
  have hmk := fun (w : World) (a : Option Addr) (len cap : Nat) (h : Row w a len zs) => make_any id a len cap zs w h
  have hmr := fun (w : World) (a : Option Addr) (len cap : Nat) (h : Row w a len zs) => refMake_any id a len cap zs w h
  have hak := fun (w : World) => ask_any id n w
  have har := fun (w : World) => refAsk_any id n w
  obtain ⟨q1, HQ1⟩ : ∃ q, Hid (mkR id zs = q) := ⟨_, rfl⟩
  obtain ⟨q2, HQ2⟩ : ∃ q, Hid (askR id n = q) := ⟨_, rfl⟩
  rw [HQ1.out] at hmk hmr ok1 oo1
  rw [HQ2.out] at hak har ok2 oo2
  clear HQ1 HQ2
  obtain ⟨ai, an, aa0, aa1, aa2, aa3, aa4, aa5, aa6, aa7, ar, ac⟩ := q1
  obtain ⟨ci, cn, cc0, cc1, cc2, cc3, cc4, cc5, cc6, cc7, cr, cc⟩ := q2
  dsimp only [FrR.tup, FrR.ds] at hmk hmr hak har ok1 oo1 ok2 oo2
  have ne1 := fun w => neqF w ai an aa0 aa1 aa2 aa3 aa4 aa5 aa6 aa7 ar ai an aa0 aa1 aa2 aa3 aa4 aa5 aa6 aa7 ar
  have ne2 := fun w => neqF w ci cn cc0 cc1 cc2 cc3 cc4 cc5 cc6 cc7 cr ci cn cc0 cc1 cc2 cc3 cc4 cc5 cc6 cc7 cr
  rw [sameF_self] at ne1 ne2
  go_enter Try.func3, Try.ntmps3
  go_wp2_with (at_builtin; refine wpList_append_nil rfl _ _ rfl rfl _ _ _ zs rfl (hr.next (Below.al (Below.refl _ _) _)) (by omega) ?_)
  intro oa oc w1 o1 o2 ro _ hb1
  have hb1' : Below (w.alloc (.cells (frC fi fn ff0 ff1 ff2 ff3 ff4 ff5 ff6 ff7 fr) 26)).heap.size (w.alloc (.cells (frC fi fn ff0 ff1 ff2 ff3 ff4 ff5 ff6 ff7 fr) 26)) w1 := by rw [show (w.alloc (.cells (frC fi fn ff0 ff1 ff2 ff3 ff4 ff5 ff6 ff7 fr) 26)).heap.size = w.heap.size + 1 from by simp]; exact hb1
  have HF := hold_next (boxed w fi fn ff0 ff1 ff2 ff3 ff4 ff5 ff6 ff7 fr) hb1'
  clear hb1'
  clear hb1
  go_wp2_with fail
  refine (hmk _ _ _ _ ro).mono ?_
  rintro e w2 ⟨rfl, hb2⟩
  have HF := hold_next HF hb2
  have ro := ro.next hb2
  clear hb2
  go_wp2_with fail
  refine (hmr _ _ _ _ (hr.next (Below.andThen HF.1 (Below.al (Below.refl _ _) _)))).mono ?_
  rintro e w3 ⟨rfl, hb3⟩
  have HA := hold_next (boxed w2 ai an aa0 aa1 aa2 aa3 aa4 aa5 aa6 aa7 ar) hb3
  have HF := hold_next HF HA.1
  have ro := ro.next HA.1
  clear hb3
  go_wp2_with fail
  refine (hak _).mono ?_
  rintro e w4 ⟨rfl, hb4⟩
  have HB := hold_next (boxed w3 ai an aa0 aa1 aa2 aa3 aa4 aa5 aa6 aa7 ar) hb4
  have HA := hold_next HA HB.1
  have HF := hold_next HF HB.1
  have ro := ro.next HB.1
  clear hb4
  go_wp2_with fail
  refine (har _).mono ?_
  rintro e w5 ⟨rfl, hb5⟩
  have HC := hold_next (boxed w4 ci cn cc0 cc1 cc2 cc3 cc4 cc5 cc6 cc7 cr) hb5
  have HB := hold_next HB HC.1
  have HA := hold_next HA HC.1
  have HF := hold_next HF HC.1
  have ro := ro.next HC.1
  clear hb5 hmk hmr hak har
  have rd := hr.next HF.1
  have ro' := ro.next (Below.al (Below.refl _ _) (.cells (frC ci cn cc0 cc1 cc2 cc3 cc4 cc5 cc6 cc7 cr) 26))
  have rd' := rd.next (Below.al (Below.refl _ _) (.cells (frC ci cn cc0 cc1 cc2 cc3 cc4 cc5 cc6 cc7 cr) 26))
  have KF : Hid (_) := HF
  have KA : Hid (_) := HA
  have KC : Hid (_) := HC
  obtain ⟨_, f0, f1, f2, f3, f4, f5, f6, f7, f8, f9, f10⟩ := HF
  obtain ⟨_, a0, a1, a2, a3, a4, a5, a6, a7, a8, a9, a10⟩ := HA
  obtain ⟨_, b0, b1, b2, b3, b4, b5, b6, b7, b8, b9, b10⟩ := HB
  obtain ⟨_, c0, c1, c2, c3, c4, c5, c6, c7, c8, c9, c10⟩ := HC
  have lf : w.heap.size < w5.heap.size := block_lt_of_cell f0
  have la : w2.heap.size < w5.heap.size := block_lt_of_cell a0
  have lb : w3.heap.size < w5.heap.size := block_lt_of_cell b0
  have lc : w4.heap.size < w5.heap.size := block_lt_of_cell c0
  go_wp2_with fail
  refine (sameBytes_any _ _ _ _ _ _ zs _ ro' rd').mono ?_
  rintro e w6 ⟨rfl, HW⟩
  have hb6 : Below w5.heap.size w5 w6 := by rw [HW]; exact Below.al (Below.refl _ _) _
  clear HW ro ro' rd rd' f0 f1 f2 f3 f4 f5 f6 f7 f8 f9 f10 a0 a1 a2 a3 a4 a5 a6 a7 a8 a9 a10 b0 b1 b2 b3 b4 b5 b6 b7 b8 b9 b10 c0 c1 c2 c3 c4 c5 c6 c7 c8 c9 c10
  have HF := hold_next KF.out hb6
  have HA := hold_next KA.out hb6
  have HC := hold_next KC.out hb6
  clear KF KA KC hb6
  obtain ⟨B6, f0, f1, f2, f3, f4, f5, f6, f7, f8, f9, f10⟩ := HF
  obtain ⟨_, a0, a1, a2, a3, a4, a5, a6, a7, a8, a9, a10⟩ := HA
  obtain ⟨_, c0, c1, c2, c3, c4, c5, c6, c7, c8, c9, c10⟩ := HC
  go_wp2_with (refine wpList_build3 rfl _ _ _ rfl rfl rfl rfl ?_)
  clear f0 f1 f2 f3 f4 f5 f6 f7 f8 f9 f10 a0 a1 a2 a3 a4 a5 a6 a7 a8 a9 a10 c0 c1 c2 c3 c4 c5 c6 c7 c8 c9 c10
  obtain ⟨V, HV⟩ : ∃ V, Hid (w6.alloc (.cells (frC3 ai an aa0 aa1 aa2 aa3 aa4 aa5 aa6 aa7 ar ci cn cc0 cc1 cc2 cc3 cc4 cc5 cc6 cc7 cr fi fn ff0 ff1 ff2 ff3 ff4 ff5 ff6 ff7 fr) 26) = V) := ⟨_, rfl⟩
  have hVs : Hid (V.heap.size = w6.heap.size + 1) := by show _ = _; rw [← HV.out]; simp
  have hVx : Hid (∀ q : Nat, q < 3 → ∃ (xi xn xx0 xx1 xx2 xx3 xx4 xx5 xx6 xx7 : Int) (xr : Bool), 0 ≤ xi ∧ Oct [xx0, xx1, xx2, xx3, xx4, xx5, xx6, xx7] ∧ V.cell? ⟨w6.heap.size, q * 11, none⟩ = some (.int .u16 xi) ∧ V.cell? ⟨w6.heap.size, q * 11 + 1, none⟩ = some (.int .i64 xn) ∧ V.cell? ⟨w6.heap.size, q * 11 + 2, none⟩ = some (.int .u8 xx0) ∧ V.cell? ⟨w6.heap.size, q * 11 + 3, none⟩ = some (.int .u8 xx1) ∧ V.cell? ⟨w6.heap.size, q * 11 + 4, none⟩ = some (.int .u8 xx2) ∧ V.cell? ⟨w6.heap.size, q * 11 + 5, none⟩ = some (.int .u8 xx3) ∧ V.cell? ⟨w6.heap.size, q * 11 + 6, none⟩ = some (.int .u8 xx4) ∧ V.cell? ⟨w6.heap.size, q * 11 + 7, none⟩ = some (.int .u8 xx5) ∧ V.cell? ⟨w6.heap.size, q * 11 + 8, none⟩ = some (.int .u8 xx6) ∧ V.cell? ⟨w6.heap.size, q * 11 + 9, none⟩ = some (.int .u8 xx7) ∧ V.cell? ⟨w6.heap.size, q * 11 + 10, none⟩ = some (.bool xr)) := fun q hq => by
    rw [← HV.out]
    have h9 : q = 0 ∨ q = 1 ∨ q = 2 := by omega
    rcases h9 with rfl | rfl | rfl
    · exact ⟨ai, an, aa0, aa1, aa2, aa3, aa4, aa5, aa6, aa7, ar, ok1, oo1, by simp [go_sem], by simp [go_sem], by simp [go_sem], by simp [go_sem], by simp [go_sem], by simp [go_sem], by simp [go_sem], by simp [go_sem], by simp [go_sem], by simp [go_sem], by simp [go_sem]⟩
    · exact ⟨ci, cn, cc0, cc1, cc2, cc3, cc4, cc5, cc6, cc7, cr, ok2, oo2, by simp [go_sem], by simp [go_sem], by simp [go_sem], by simp [go_sem], by simp [go_sem], by simp [go_sem], by simp [go_sem], by simp [go_sem], by simp [go_sem], by simp [go_sem], by simp [go_sem]⟩
    · exact ⟨fi, fn, ff0, ff1, ff2, ff3, ff4, ff5, ff6, ff7, fr, hfi, hfo, by simp [go_sem], by simp [go_sem], by simp [go_sem], by simp [go_sem], by simp [go_sem], by simp [go_sem], by simp [go_sem], by simp [go_sem], by simp [go_sem], by simp [go_sem], by simp [go_sem]⟩
  have BV : Hid (Below w.heap.size w V) := by show Below _ _ _; rw [← HV.out]; exact Below.andThen B6 (Below.al (Below.refl _ _) _)
  rw [HV.out]
  clear HV B6 ok1 oo1 ok2 oo2 hfi hfo ne1 ne2 hid hr o1 o2
  generalize frV ai an aa0 aa1 aa2 aa3 aa4 aa5 aa6 aa7 ar = ga1
  generalize frV ci cn cc0 cc1 cc2 cc3 cc4 cc5 cc6 cc7 cr = ga2
  generalize frV fi fn ff0 ff1 ff2 ff3 ff4 ff5 ff6 ff7 fr = ga3
  generalize (Value.agg #[.int .u16 ai, .int .i64 an, .int .u8 aa0, .int .u8 aa1, .int .u8 aa2, .int .u8 aa3, .int .u8 aa4, .int .u8 aa5, .int .u8 aa6, .int .u8 aa7, .bool ar]) = ga4
  generalize (Value.agg #[.int .u16 ci, .int .i64 cn, .int .u8 cc0, .int .u8 cc1, .int .u8 cc2, .int .u8 cc3, .int .u8 cc4, .int .u8 cc5, .int .u8 cc6, .int .u8 cc7, .bool cr]) = ga5
  generalize (Value.agg #[.int .u16 fi, .int .i64 fn, .int .u8 ff0, .int .u8 ff1, .int .u8 ff2, .int .u8 ff3, .int .u8 ff4, .int .u8 ff5, .int .u8 ff6, .int .u8 ff7, .bool fr]) = ga6
  go_loopw [85] (fun i wr => ∃ q : Nat, q ≤ 3 ∧ i = .int .i64 (q : Int) ∧ Below V.heap.size V wr) (fun i _ => 3 - (intOf i).toNat)
  case atStart => exact ⟨0, by decide, rfl, Below.refl _ _⟩
  case round =>
    obtain ⟨q, hq, rfl, hb0⟩ := hrel
    have hb : Hid (Below V.heap.size V wr) := hb0
    clear hb0
    by_cases hlt : q < 3
    · obtain ⟨xi, xn, xx0, xx1, xx2, xx3, xx4, xx5, xx6, xx7, xr, xo, xoct, x0, x1, x2, x3, x4, x5, x6, x7, x8, x9, x10⟩ := hVx.out q hlt
      replace x0 := (hb.out.cell (p := ⟨w6.heap.size, _, none⟩) (by rw [hVs.out]; exact Nat.lt_succ_self _)).trans x0
      replace x1 := (hb.out.cell (p := ⟨w6.heap.size, _, none⟩) (by rw [hVs.out]; exact Nat.lt_succ_self _)).trans x1
      replace x2 := (hb.out.cell (p := ⟨w6.heap.size, _, none⟩) (by rw [hVs.out]; exact Nat.lt_succ_self _)).trans x2
      replace x3 := (hb.out.cell (p := ⟨w6.heap.size, _, none⟩) (by rw [hVs.out]; exact Nat.lt_succ_self _)).trans x3
      replace x4 := (hb.out.cell (p := ⟨w6.heap.size, _, none⟩) (by rw [hVs.out]; exact Nat.lt_succ_self _)).trans x4
      replace x5 := (hb.out.cell (p := ⟨w6.heap.size, _, none⟩) (by rw [hVs.out]; exact Nat.lt_succ_self _)).trans x5
      replace x6 := (hb.out.cell (p := ⟨w6.heap.size, _, none⟩) (by rw [hVs.out]; exact Nat.lt_succ_self _)).trans x6
      replace x7 := (hb.out.cell (p := ⟨w6.heap.size, _, none⟩) (by rw [hVs.out]; exact Nat.lt_succ_self _)).trans x7
      replace x8 := (hb.out.cell (p := ⟨w6.heap.size, _, none⟩) (by rw [hVs.out]; exact Nat.lt_succ_self _)).trans x8
      replace x9 := (hb.out.cell (p := ⟨w6.heap.size, _, none⟩) (by rw [hVs.out]; exact Nat.lt_succ_self _)).trans x9
      replace x10 := (hb.out.cell (p := ⟨w6.heap.size, _, none⟩) (by rw [hVs.out]; exact Nat.lt_succ_self _)).trans x10
      have hlt' : (q : Int) < 3 := by omega
      have hw1 := fun w => write_any xi xn xx0 xx1 xx2 xx3 xx4 xx5 xx6 xx7 xr w xoct xo
      have hw2 := fun w => refWrite_any xi xn xx0 xx1 xx2 xx3 xx4 xx5 xx6 xx7 xr w xoct xo
      have hd1 := fun w => data_any xi xn xx0 xx1 xx2 xx3 xx4 xx5 xx6 xx7 xr w xoct
      have hd2 := fun w => refData_any xi xn xx0 xx1 xx2 xx3 xx4 xx5 xx6 xx7 xr w xoct
      have ht1 := fun w => right_any xi xn xx0 xx1 xx2 xx3 xx4 xx5 xx6 xx7 xr w xoct
      have ht2 := fun w => refRight_any xi xn xx0 xx1 xx2 xx3 xx4 xx5 xx6 xx7 xr w
      generalize strOfNums (wrS xi xn [xx0, xx1, xx2, xx3, xx4, xx5, xx6, xx7] xr) = T0 at hw1 hw2
      generalize wrE xi xn [xx0, xx1, xx2, xx3, xx4, xx5, xx6, xx7] xr = k0 at hw1 hw2
      generalize rightB xi xn [xx0, xx1, xx2, xx3, xx4, xx5, xx6, xx7] xr = b0 at ht1 ht2
      generalize datL xi xn [xx0, xx1, xx2, xx3, xx4, xx5, xx6, xx7] xr = L at hd1 hd2
      go_wp2_with fail
      refine (hw1 _).mono ?_
      rintro e v1 ⟨rfl, g1⟩
      have HX := hold_next (boxed wr xi xn xx0 xx1 xx2 xx3 xx4 xx5 xx6 xx7 xr) g1
      clear x0 x1 x2 x3 x4 x5 x6 x7 x8 x9 x10 g1
      have KX : Hid (_) := HX
      obtain ⟨_, x0, x1, x2, x3, x4, x5, x6, x7, x8, x9, x10⟩ := HX
      go_wp2_with fail
      refine (hw2 _).mono ?_
      rintro e v2 ⟨rfl, g2⟩
      have HX := hold_next KX.out g2
      clear x0 x1 x2 x3 x4 x5 x6 x7 x8 x9 x10 KX g2
      have KX : Hid (_) := HX
      obtain ⟨X2, x0, x1, x2, x3, x4, x5, x6, x7, x8, x9, x10⟩ := HX
      go_wp2_with fail
      refine (hd1 _).mono ?_
      rintro e v3 ⟨ya, yl, yc, rfl, y8, yk, yrow, yfresh, g3⟩
      have HX := hold_next KX.out g3
      clear x0 x1 x2 x3 x4 x5 x6 x7 x8 x9 x10 KX hw1 hw2 hd1
      obtain ⟨X3, x0, x1, x2, x3, x4, x5, x6, x7, x8, x9, x10⟩ := HX
      have FZ : Hid (∀ b off, ya = some ⟨b, off, none⟩ → V.heap.size ≤ b ∧ off = 0 ∧ ∀ i, i < yl → v3.frozen? ⟨b, i, none⟩ = false) := fun b off e => by
        obtain ⟨e1, e2, e3⟩ := yfresh b off e
        have := X2.size
        have := hb.out.size
        exact ⟨by omega, e2, e3⟩
      clear yfresh X2 g3
      go_wp2_with fail
      refine wp_region_held_drew (S := fun x => Below v3.heap.size v3 x ∧ x.cell? ⟨wr.heap.size, 0, none⟩ = some (.int .u16 xi) ∧ x.cell? ⟨wr.heap.size, 1, none⟩ = some (.int .i64 xn) ∧ x.cell? ⟨wr.heap.size, 2, none⟩ = some (.int .u8 xx0) ∧ x.cell? ⟨wr.heap.size, 3, none⟩ = some (.int .u8 xx1) ∧ x.cell? ⟨wr.heap.size, 4, none⟩ = some (.int .u8 xx2) ∧ x.cell? ⟨wr.heap.size, 5, none⟩ = some (.int .u8 xx3) ∧ x.cell? ⟨wr.heap.size, 6, none⟩ = some (.int .u8 xx4) ∧ x.cell? ⟨wr.heap.size, 7, none⟩ = some (.int .u8 xx5) ∧ x.cell? ⟨wr.heap.size, 8, none⟩ = some (.int .u8 xx6) ∧ x.cell? ⟨wr.heap.size, 9, none⟩ = some (.int .u8 xx7) ∧ x.cell? ⟨wr.heap.size, 10, none⟩ = some (.bool xr)) (by kernel_rfl) ⟨Below.drew (Below.refl _ _), x0, x1, x2, x3, x4, x5, x6, x7, x8, x9, x10⟩ (fun hHeld => ?_)
      refine wpAnyH_take (i := 0) (v := (frV xi xn xx0 xx1 xx2 xx3 xx4 xx5 xx6 xx7 xr)) rfl (by kernel_rfl) (by kernel_rfl) (by kernel_rfl) (fun _ _ _ h => h) (Or.inl ⟨by rfl, ?_⟩) (by assumption) ?_
      · intro w9 hSw
        try dsimp only at hSw
        go_simp
      try simp only [Act.put, List.getElem_toArray, List.getElem_cons_succ, List.getElem_cons_zero, List.setIfInBounds_toArray, List.set_cons_zero, List.set_cons_succ]
      refine wpAnyH_take (i := 2) (v := (frV xi xn xx0 xx1 xx2 xx3 xx4 xx5 xx6 xx7 xr)) rfl (by kernel_rfl) (by kernel_rfl) (by kernel_rfl) (fun _ _ _ h => h) (Or.inl ⟨by rfl, ?_⟩) (by assumption) ?_
      · intro w9 hSw
        try dsimp only at hSw
        go_simp
      try simp only [Act.put, List.getElem_toArray, List.getElem_cons_succ, List.getElem_cons_zero, List.setIfInBounds_toArray, List.set_cons_zero, List.set_cons_succ]
      refine wpAnyH_ready (rs := [1]) (by kernel_rfl) (by simp) ?_
      refine AllReadyH.cons rfl (fun K' hK => ?_) AllReadyH.nil
      rw [if_pos (by rfl)]
      simp only [List.getElem_toArray, List.getElem_cons_succ, List.getElem_cons_zero]
      go_wp2_with fail
      refine (ht1 _).mono ?_
      rintro e z ⟨rfl, hbx⟩
      try go_wp2_with fail
      refine hK.out _ _ (hold_next (by assumption) hbx) (fun hHeld => ?_)
      clear hK K'
      try simp only [Act.put, List.getElem_toArray, List.getElem_cons_succ, List.getElem_cons_zero, List.setIfInBounds_toArray, List.set_cons_zero, List.set_cons_succ]
      refine wpAnyH_ready (rs := [3]) (by kernel_rfl) (by simp) ?_
      refine AllReadyH.cons rfl (fun K' hK => ?_) AllReadyH.nil
      rw [if_pos (by rfl)]
      simp only [List.getElem_toArray, List.getElem_cons_succ, List.getElem_cons_zero]
      go_wp2_with fail
      refine (ht2 _).mono ?_
      rintro e z ⟨rfl, hbx⟩
      try go_wp2_with fail
      refine hK.out _ _ (hold_next (by assumption) hbx) (fun hHeld => ?_)
      clear hK K'
      try simp only [Act.put, List.getElem_toArray, List.getElem_cons_succ, List.getElem_cons_zero, List.setIfInBounds_toArray, List.set_cons_zero, List.set_cons_succ]
      refine wpAnyH_take (i := 4) (v := (.bool false)) rfl (by kernel_rfl) (by kernel_rfl) (by kernel_rfl) (fun _ _ _ h => h) (Or.inl ⟨by rfl, ?_⟩) (by assumption) ?_
      · intro w9 hSw
        try dsimp only at hSw
        go_simp
      try simp only [Act.put, List.getElem_toArray, List.getElem_cons_succ, List.getElem_cons_zero, List.setIfInBounds_toArray, List.set_cons_zero, List.set_cons_succ]
      refine wpAnyH_take (i := 5) (v := (.bool false)) rfl (by kernel_rfl) (by kernel_rfl) (by kernel_rfl) (fun _ _ _ h => h) (Or.inl ⟨by rfl, ?_⟩) (by assumption) ?_
      · intro w9 hSw
        try dsimp only at hSw
        go_simp
      try simp only [Act.put, List.getElem_toArray, List.getElem_cons_succ, List.getElem_cons_zero, List.setIfInBounds_toArray, List.set_cons_zero, List.set_cons_succ]
      refine wpAnyH_take (i := 6) (v := (.string T0)) rfl (by kernel_rfl) (by kernel_rfl) (by kernel_rfl) (fun _ _ _ h => h) (Or.inl ⟨by rfl, ?_⟩) (by assumption) ?_
      · intro w9 hSw
        try dsimp only at hSw
        go_simp
      try simp only [Act.put, List.getElem_toArray, List.getElem_cons_succ, List.getElem_cons_zero, List.setIfInBounds_toArray, List.set_cons_zero, List.set_cons_succ]
      refine wpAnyH_take (i := 7) (v := (.string T0)) rfl (by kernel_rfl) (by kernel_rfl) (by kernel_rfl) (fun _ _ _ h => h) (Or.inl ⟨by rfl, ?_⟩) (by assumption) ?_
      · intro w9 hSw
        try dsimp only at hSw
        go_simp
      try simp only [Act.put, List.getElem_toArray, List.getElem_cons_succ, List.getElem_cons_zero, List.setIfInBounds_toArray, List.set_cons_zero, List.set_cons_succ]
      refine wpAnyH_take (i := 8) (v := (.bool false)) rfl (by kernel_rfl) (by kernel_rfl) (by kernel_rfl) (fun _ _ _ h => h) (Or.inl ⟨by rfl, ?_⟩) (by assumption) ?_
      · intro w9 hSw
        try dsimp only at hSw
        go_simp
      try simp only [Act.put, List.getElem_toArray, List.getElem_cons_succ, List.getElem_cons_zero, List.setIfInBounds_toArray, List.set_cons_zero, List.set_cons_succ]
      refine wpAnyH_take (i := 9) (v := (.bool false)) rfl (by kernel_rfl) (by kernel_rfl) (by kernel_rfl) (fun _ _ _ h => h) (Or.inl ⟨by rfl, ?_⟩) (by assumption) ?_
      · intro w9 hSw
        try dsimp only at hSw
        go_simp
      try simp only [Act.put, List.getElem_toArray, List.getElem_cons_succ, List.getElem_cons_zero, List.setIfInBounds_toArray, List.set_cons_zero, List.set_cons_succ]
      refine wpAnyH_take (i := 10) (v := (.bool false)) rfl (by kernel_rfl) (by kernel_rfl) (by kernel_rfl) (fun _ _ _ h => h) (Or.inl ⟨by rfl, ?_⟩) (by assumption) ?_
      · intro w9 hSw
        try dsimp only at hSw
        go_simp
      try simp only [Act.put, List.getElem_toArray, List.getElem_cons_succ, List.getElem_cons_zero, List.setIfInBounds_toArray, List.set_cons_zero, List.set_cons_succ]
      refine wpAnyH_take (i := 11) (v := (.int .i64 k0)) rfl (by kernel_rfl) (by kernel_rfl) (by kernel_rfl) (fun _ _ _ h => h) (Or.inl ⟨by rfl, ?_⟩) (by assumption) ?_
      · intro w9 hSw
        try dsimp only at hSw
        go_simp
      try simp only [Act.put, List.getElem_toArray, List.getElem_cons_succ, List.getElem_cons_zero, List.setIfInBounds_toArray, List.set_cons_zero, List.set_cons_succ]
      refine wpAnyH_take (i := 12) (v := (.int .i64 k0)) rfl (by kernel_rfl) (by kernel_rfl) (by kernel_rfl) (fun _ _ _ h => h) (Or.inl ⟨by rfl, ?_⟩) (by assumption) ?_
      · intro w9 hSw
        try dsimp only at hSw
        go_simp
      try simp only [Act.put, List.getElem_toArray, List.getElem_cons_succ, List.getElem_cons_zero, List.setIfInBounds_toArray, List.set_cons_zero, List.set_cons_succ]
      refine wpAnyH_take (i := 13) (v := (.bool false)) rfl (by kernel_rfl) (by kernel_rfl) (by kernel_rfl) (fun _ _ _ h => h) (Or.inl ⟨by rfl, ?_⟩) (by assumption) ?_
      · intro w9 hSw
        try dsimp only at hSw
        go_simp
      try simp only [Act.put, List.getElem_toArray, List.getElem_cons_succ, List.getElem_cons_zero, List.setIfInBounds_toArray, List.set_cons_zero, List.set_cons_succ]
      refine wpAnyH_take (i := 14) (v := (.bool false)) rfl (by kernel_rfl) (by kernel_rfl) (by kernel_rfl) (fun _ _ _ h => h) (Or.inl ⟨by rfl, ?_⟩) (by assumption) ?_
      · intro w9 hSw
        try dsimp only at hSw
        go_simp
      try simp only [Act.put, List.getElem_toArray, List.getElem_cons_succ, List.getElem_cons_zero, List.setIfInBounds_toArray, List.set_cons_zero, List.set_cons_succ]
      refine wpAnyH_take (i := 15) (v := (.bool false)) rfl (by kernel_rfl) (by kernel_rfl) (by kernel_rfl) (fun _ _ _ h => h) (Or.inl ⟨by rfl, ?_⟩) (by assumption) ?_
      · intro w9 hSw
        try dsimp only at hSw
        go_simp
      try simp only [Act.put, List.getElem_toArray, List.getElem_cons_succ, List.getElem_cons_zero, List.setIfInBounds_toArray, List.set_cons_zero, List.set_cons_succ]
      refine wpAnyH_take (i := 16) (v := (.slice ya yl yc)) rfl (by kernel_rfl) (by kernel_rfl) (by kernel_rfl) (fun _ _ _ h => h) (Or.inl ⟨by rfl, ?_⟩) (by assumption) ?_
      · intro w9 hSw
        try dsimp only at hSw
        go_simp
      try simp only [Act.put, List.getElem_toArray, List.getElem_cons_succ, List.getElem_cons_zero, List.setIfInBounds_toArray, List.set_cons_zero, List.set_cons_succ]
      refine wpAnyH_take (i := 17) (v := (frV xi xn xx0 xx1 xx2 xx3 xx4 xx5 xx6 xx7 xr)) rfl (by kernel_rfl) (by kernel_rfl) (by kernel_rfl) (fun _ _ _ h => h) (Or.inl ⟨by rfl, ?_⟩) (by assumption) ?_
      · intro w9 hSw
        try dsimp only at hSw
        go_simp
      try simp only [Act.put, List.getElem_toArray, List.getElem_cons_succ, List.getElem_cons_zero, List.setIfInBounds_toArray, List.set_cons_zero, List.set_cons_succ]
      refine wpAnyH_ready (rs := [18]) (by kernel_rfl) (by simp) ?_
      refine AllReadyH.cons rfl (fun K' hK => ?_) AllReadyH.nil
      rw [if_pos (by rfl)]
      simp only [List.getElem_toArray, List.getElem_cons_succ, List.getElem_cons_zero]
      go_wp2_with fail
      refine (hd2 _).mono ?_
      rintro e z ⟨za, zl, zc, rfl, z8, zrow, hbx⟩
      try go_wp2_with fail
      refine hK.out _ _ (hold_next (by assumption) hbx) (fun hHeld => ?_)
      clear hK K'
      try simp only [Act.put, List.getElem_toArray, List.getElem_cons_succ, List.getElem_cons_zero, List.setIfInBounds_toArray, List.set_cons_zero, List.set_cons_succ]
      refine wpAnyH_ready (rs := [19]) (by kernel_rfl) (by simp) ?_
      refine AllReadyH.cons rfl (fun K' hK => ?_) AllReadyH.nil
      rw [if_pos (by rfl)]
      simp only [List.getElem_toArray, List.getElem_cons_succ, List.getElem_cons_zero]
      go_wp2_with fail
      refine (sameBytes_any _ _ _ _ _ _ L _ (yrow.next (And.left hHeld)) zrow).mono ?_
      rintro e z' ⟨rfl, HW⟩
      try go_wp2_with fail
      refine hK.out _ _ hHeld (fun hHeld => ?_)
      clear hK K'
      try simp only [Act.put, List.getElem_toArray, List.getElem_cons_succ, List.getElem_cons_zero, List.setIfInBounds_toArray, List.set_cons_zero, List.set_cons_succ]
      refine wpAnyH_take (i := 20) (v := (.bool false)) rfl (by kernel_rfl) (by kernel_rfl) (by kernel_rfl) (fun _ _ _ h => h) (Or.inl ⟨by rfl, ?_⟩) (by assumption) ?_
      · intro w9 hSw
        try dsimp only at hSw
        go_simp
      try simp only [Act.put, List.getElem_toArray, List.getElem_cons_succ, List.getElem_cons_zero, List.setIfInBounds_toArray, List.set_cons_zero, List.set_cons_succ]
      refine wpAnyH_take (i := 21) (v := (.bool false)) rfl (by kernel_rfl) (by kernel_rfl) (by kernel_rfl) (fun _ _ _ h => h) (Or.inl ⟨by rfl, ?_⟩) (by assumption) ?_
      · intro w9 hSw
        try dsimp only at hSw
        go_simp
      try simp only [Act.put, List.getElem_toArray, List.getElem_cons_succ, List.getElem_cons_zero, List.setIfInBounds_toArray, List.set_cons_zero, List.set_cons_succ]
      refine wpAnyH_done (by kernel_rfl) ?_ _
      obtain ⟨Z3, _⟩ := hHeld
      have zr : Row z ya yl L := yrow.next Z3
      have hinv : ∀ b off, ya = some ⟨b, off, none⟩ → V.heap.size ≤ b ∧ off = 0 ∧ ∀ i, i < yl → (∃ v, z.cell? ⟨b, i, none⟩ = some v) ∧ z.frozen? ⟨b, i, none⟩ = false := fun b off e => by
        obtain ⟨e1, e2, e3⟩ := FZ.out b off e
        refine ⟨e1, e2, fun i hi => ?_⟩
        have hlt3 : b < v3.heap.size := yrow.old (by omega) b off e
        obtain ⟨b', off', e', hc⟩ := zr.at_ (by omega)
        rw [e] at e'
        cases e'
        subst e2
        exact ⟨⟨_, by have := hc i hi; rwa [Nat.zero_add] at this⟩, (Z3.frozen (p := ⟨b, i, none⟩) hlt3).trans (e3 i hi)⟩
      have BZ : Below V.heap.size V z := by
        have h3 : Below wr.heap.size wr z := Below.andThen X3 Z3
        exact hb.out.trans (h3.mono hb.out.size)
      have INV : Hid (∀ b off, ya = some ⟨b, off, none⟩ → V.heap.size ≤ b ∧ off = 0 ∧ ∀ i, i < yl → (∃ v, z.cell? ⟨b, i, none⟩ = some v) ∧ z.frozen? ⟨b, i, none⟩ = false) := hinv
      clear hinv FZ Z3 X3 zrow ht1 ht2 hd2 x0 x1 x2 x3 x4 x5 x6 x7 x8 x9 x10
      go_wp2_with fail
      go_loopw [25] (fun i ws => ∃ j : Nat, j ≤ yl ∧ i = .int .i64 (j : Int) ∧ Below V.heap.size V ws ∧ ∀ b off, ya = some ⟨b, off, none⟩ → V.heap.size ≤ b ∧ off = 0 ∧ ∀ i, i < yl → (∃ v, ws.cell? ⟨b, i, none⟩ = some v) ∧ ws.frozen? ⟨b, i, none⟩ = false) (fun i _ => yl - (intOf i).toNat)
      case atStart => exact ⟨0, Nat.zero_le _, rfl, BZ, INV.out⟩
      case round =>
        obtain ⟨j, hj, rfl, hbj, hin⟩ := hrel
        have HI : Hid (_) := hin
        clear hin
        by_cases hjl : j < yl
        · have hjl' : (j : Int) < (yl : Int) := by omega
          obtain ⟨b, off, rfl, _⟩ := zr.at_ (by omega)
          obtain ⟨hbb, rfl, hall⟩ := HI.out b off rfl
          obtain ⟨⟨v, hv⟩, hz⟩ := hall j hjl
          have HAL : Hid (_) := hall
          clear hall HI
          go_wp2_with fail
          exact ⟨⟨j + 1, by omega, by go_num, hbj.setCell (by exact hbb) _, fun b' off' e => by cases e; exact ⟨hbb, rfl, keep_set HAL.out _⟩⟩, by simp [intOf]; omega⟩
        · go_wp2_with fail
          exact ⟨⟨q + 1, by omega, by go_num, hbj⟩, by simp [intOf]; omega⟩
    · obtain rfl : q = 3 := by omega
      go_wp2_with fail
      refine (works_any _).mono ?_
      rintro e w9 ⟨rfl, hb9⟩
      go_wp2_with fail
      go_ret
      exact ⟨rfl, Below.andThen (Below.andThen BV.out hb.out) hb9⟩
#print axioms frameMakes_any
end Go.Proofs.Ytbjbnfhmehkkpaa
