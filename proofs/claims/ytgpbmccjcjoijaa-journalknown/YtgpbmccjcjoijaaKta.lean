/-
  The law's tells: does a journal tell what the document's does.
  The walk of the law's tells.
-/
import Derived.Test.YtgpbmccjcjoijaaKl
import Derived.Test.YtgpbmccjcjoijaaJq
import Derived.BigQuiet
namespace Go.Proofs.Ytgpbmccjcjoijaa
open Go.RowKit

theorem byte_inj {x y : Int} (hx : 0 ≤ x ∧ x < 256) (hy : 0 ≤ y ∧ y < 256) (h : UInt8.ofNat x.toNat = UInt8.ofNat y.toNat) : x = y := by
  have := congrArg UInt8.toNat h
  simp at this
  omega
theorem strOfNums_inj (a b : List Int) (oa : Oct a) (ob : Oct b) (h : strOfNums a = strOfNums b) : a = b := by
  have h' := congrArg (fun s : ByteArray => s.data.toList) h
  simp only [strOfNums_data] at h'
  clear h
  induction a generalizing b with
  | nil => cases b with
    | nil => rfl
    | cons y b => simp at h'
  | cons x a ih => cases b with
    | nil => simp at h'
    | cons y b =>
      simp only [List.map_cons, List.cons.injEq] at h'
      rw [byte_inj (oa x (by simp)) (ob y (by simp)) h'.1, ih b (fun n hn => oa n (by simp [hn])) (fun n hn => ob n (by simp [hn])) h'.2]
/-- Two groups are told alike. -/
def agr1 (x y : Gp) : Bool := (x.there == y.there) && (!x.there || decide (x.bs = y.bs))
def agr (a b : List Gp) : Bool := (List.range 16).all fun i => agr1 (a.getD i gp0) (b.getD i gp0)
theorem agr_no {a b : List Gp} (i : Nat) (hi : i < 16) (h : agr1 (a.getD i gp0) (b.getD i gp0) = false) : agr a b = false := by
  cases hh : agr a b with
  | false => rfl
  | true =>
    unfold agr at hh
    rw [List.all_eq_true.1 hh i (List.mem_range.2 hi)] at h
    cases h
theorem agr_yes {a b : List Gp} (h : ∀ i, i < 16 → agr1 (a.getD i gp0) (b.getD i gp0) = true) : agr a b = true := by
  unfold agr
  exact List.all_eq_true.2 fun i hi => h i (List.mem_range.1 hi)
theorem agr_at {a b : List Gp} (h : agr a b = true) (i : Nat) (hi : i < 16) : agr1 (a.getD i gp0) (b.getD i gp0) = true := List.all_eq_true.1 h i (List.mem_range.2 hi)
theorem getD_some {l : List Gp} {i : Nat} {g : Gp} (h : l[i]? = some g) : l.getD i gp0 = g := by rw [List.getD_eq_getElem?_getD, h]; rfl
/-- How many groups are there ahead of one. -/
def cn (l : List Gp) (i : Nat) : Nat := (grpN (l.take i) 0).length
theorem grpN_split : ∀ (l : List Gp) (i k : Nat), i ≤ l.length → grpN l k = grpN (l.take i) k ++ grpN (l.drop i) (k + i)
  | l, 0, k, _ => by simp [grpN]
  | [], i + 1, k, h => by simp at h
  | g :: l, i + 1, k, h => by
    have := grpN_split l i (k + 1) (by simpa using h)
    show (if g.there then (k : Int) :: grpN l (k + 1) else grpN l (k + 1)) = (if g.there then (k : Int) :: grpN (l.take i) (k + 1) else grpN (l.take i) (k + 1)) ++ grpN (l.drop i) (k + (i + 1))
    rw [this, show k + (i + 1) = k + 1 + i by omega]
    split <;> simp
theorem cn_zero (l : List Gp) : cn l 0 = 0 := by simp [cn, grpN]
theorem cn_next {l : List Gp} {i : Nat} {g : Gp} (h : l[i]? = some g) : cn l (i + 1) = cn l i + if g.there then 1 else 0 := by
  have hi : i < l.length := (List.getElem?_eq_some_iff.1 h).1
  unfold cn
  rw [List.take_add_one, h, Option.toList_some, grpN_snoc, List.length_append]
  split <;> simp
theorem cn_big {l : List Gp} {i : Nat} (h : l.length ≤ i) : cn l i = (grpN l 0).length := by unfold cn; rw [List.take_of_length_le h]
theorem cn_at {l : List Gp} {i : Nat} {g : Gp} (h : l[i]? = some g) (ht : g.there = true) : cn l i < (grpN l 0).length ∧ (grpN l 0).getD (cn l i) 0 = (i : Int) := by
  have hi : i < l.length := (List.getElem?_eq_some_iff.1 h).1
  have e := grpN_split l i 0 (by omega)
  have hd : l.drop i = g :: l.drop (i + 1) := by
    rw [List.drop_eq_getElem_cons hi]
    congr 1
    rw [List.getElem?_eq_getElem hi] at h
    exact Option.some.inj h
  rw [hd, Nat.zero_add] at e
  have e2 : grpN (g :: l.drop (i + 1)) i = (i : Int) :: grpN (l.drop (i + 1)) (i + 1) := by
    show (if g.there then _ else _) = _
    rw [if_pos ht]
  rw [e2] at e
  unfold cn
  rw [e]
  refine ⟨by simp, ?_⟩
  rw [List.getD_eq_getElem?_getD, List.getElem?_append_right (Nat.le_refl _), Nat.sub_self]
  rfl
theorem cn_le (l : List Gp) (i : Nat) : cn l i ≤ l.length := by
  unfold cn
  have := grpN_len (l.take i) 0
  simp at this
  omega

/-- What is left of the list that was told. -/
structure Rest (W : World) (g n : Nat) (L : List Int) : Prop where
  at_ : ∀ x, n ≤ x → x < L.length → W.cell? ⟨g, x, none⟩ = some (.int .u8 (L.getD x 0))
  fz : ∀ x, x < L.length → W.frozen? ⟨g, x, none⟩ = false
theorem Rest.below {W V : World} {g n : Nat} {L : List Int} (h : Rest W g n L) (hb : Below W.heap.size W V) (hg : g < W.heap.size) : Rest V g n L :=
  ⟨fun x h1 h2 => by rw [hb.cell (p := ⟨g, x, none⟩) hg]; exact h.at_ x h1 h2, fun x h2 => by rw [hb.frozen (p := ⟨g, x, none⟩) hg]; exact h.fz x h2⟩
theorem Rest.kp {S : List Nat} {W V : World} {g n : Nat} {L : List Int} (h : Rest W g n L) (k : Kp S W V) (hg : g < W.heap.size) (hn : g ∉ S) : Rest V g n L :=
  ⟨fun x h1 h2 => k.cell (h.at_ x h1 h2) hn, fun x h2 => by rw [World.frozen?_of_block (w := W) (k.block g hg hn)]; exact h.fz x h2⟩
theorem Rest.lt {W : World} {g n : Nat} {L : List Int} (h : Rest W g n L) (h1 : n < L.length) : g < W.heap.size := block_lt_of_cell (h.at_ n (Nat.le_refl _) h1)
theorem Rest.set {W : World} {g n : Nat} {L : List Int} (h : Rest W g n L) (v : Value) : Rest (W.setCell ⟨g, n, none⟩ v) g (n + 1) L :=
  ⟨fun x h1 h2 => by rw [World.cell?_setCell_other _ _ _ _ (fun e => by have := congrArg Addr.off e; dsimp only at this; omega)]; exact h.at_ x (by omega) h2, fun x h2 => by rw [World.frozen?_setCell]; exact h.fz x h2⟩
theorem Rest.of {w W : World} {a : Option Addr} {c : Nat} {L : List Int} (h : Told w W a L.length c L) : ∃ g, w.heap.size ≤ g ∧ (0 < L.length → a = some ⟨g, 0, none⟩ ∧ g < W.heap.size ∧ Rest W g 0 L) := by
  by_cases hp : 0 < L.length
  · obtain ⟨g, e, hg, hf⟩ := h.own hp
    obtain ⟨g', e', _, hc⟩ := h.at hp
    rw [e] at e'
    cases e'
    exact ⟨g, hg, fun _ => ⟨e, block_lt_of_cell (hc 0 hp), fun x _ h2 => hc x h2, hf⟩⟩
  · exact ⟨w.heap.size, Nat.le_refl _, fun h => absurd h hp⟩
#print axioms cn_at
#print axioms Rest.of
end Go.Proofs.Ytgpbmccjcjoijaa
namespace Go.Proofs.Ytgpbmccjcjoijaa
open Go.RowKit

set_option linter.unusedSimpArgs false in
set_option maxHeartbeats 8000000 in
set_option maxRecDepth 100000 in
theorem tells_any {w : World} {q p first k : Nat} {j : JS} {S : List Nat} (hJ : IsJ w S q p first k j) {d db count : Nat} {ml : List Gp} (hM : IsM w d db count ml) (hO : ∀ g ∈ ml, Oct g.bs) :
    Calls Try.prog 42 #[.pointer (some ⟨q, 0, none⟩), .pointer (some ⟨d, 0, none⟩)] w fun e w' => e = .returned (.bool (agr j.all ml)) ∧ Below w.heap.size w w' := by
  obtain ⟨ss, hq, hG⟩ := hJ
  have h1 := hG.n1
  have h2 := hG.n2
  have hm16 := hM.len
  have GR := groups_any hq h1 h2
  have HQ : Hid (JB w q p (j.f1 first k) (j.f2 first k) k j.bg j.num j.en j.all ss j.cut) := hq
  have HG : Hid (IsG w S j.all ss) := hG
  have HM : Hid (IsM w d db count ml) := hM
  have HO : Hid (∀ g ∈ ml, Oct g.bs) := hO
  have ql : q < w.heap.size := lt_of_heap hq
  clear hq hG hM hO
  generalize j.all = al at *
  obtain ⟨L, hL⟩ : ∃ L, Hid (grpN al 0 = L) := ⟨_, rfl⟩
  rw [hL.out] at GR
  have hLl : L.length ≤ 16 := by have := grpN_len al 0; rw [hL.out] at this; omega
  go_enter Try.func42, Try.ntmps42
  go_wp2_with fail
  with_reducible refine GR.mono ?_
  rintro e U ⟨⟨a, c, rfl, hT⟩, hb⟩
  clear GR
  obtain ⟨gl, hgw, hgl⟩ := Rest.of hT
  have HGL : Hid (0 < L.length → a = some ⟨gl, 0, none⟩ ∧ gl < U.heap.size ∧ Rest U gl 0 L) := hgl
  have HU : Hid (Below w.heap.size w U) := hb
  clear hT hb hgl
  go_wp2_with fail
  go_loopw [5, 7] (fun v5 v7 wr => ∃ i : Nat, i ≤ 256 ∧ v7 = .int .i64 i ∧ v5 = .int .i64 (cn al i : Nat) ∧ Below w.heap.size w wr ∧ U.heap.size ≤ wr.heap.size ∧ (∀ x, x < i → x < 16 → agr1 (al.getD x gp0) (ml.getD x gp0) = true) ∧ (0 < L.length → Rest wr gl (cn al i) L)) (fun _ v7 _ => 256 - (intOf v7).toNat)
  case atStart => exact ⟨0, by omega, rfl, by rw [cn_zero]; rfl, HU.out, Nat.le_refl _, (fun x h => absurd h (by omega)), fun h => by rw [cn_zero]; exact (HGL.out h).2.2⟩
  case round =>
    obtain ⟨i, hi, rfl, rfl, hb, hUs, hag, hr⟩ := hrel
    have HB : Hid (Below w.heap.size w wr) := hb
    have HUs : Hid (U.heap.size ≤ wr.heap.size) := hUs
    have HAG : Hid (∀ x, x < i → x < 16 → agr1 (al.getD x gp0) (ml.getD x gp0) = true) := hag
    have HR : Hid (0 < L.length → Rest wr gl (cn al i) L) := hr
    have hcn : cn al i ≤ 16 := by have := cn_le al i; omega
    have hqr : JB wr q p (j.f1 first k) (j.f2 first k) k j.bg j.num j.en al ss j.cut := (hb.block q ql).trans HQ.out
    have hgr : IsG wr S al ss := HG.out.next hb
    have hmr : IsM wr d db count ml := HM.out.kp (S := []) (Kp.of hb) (by simp) (by simp)
    have d0 := hmr.c0
    clear hb hUs hag hr
    by_cases hlt : i < 256
    · have g0 : (i : Int) < 256 := by omega
      have gp : (0 : Int) ≤ i := by omega
      have gW : IntKind.u8.wrap (i : Int) = i := by simp [IntKind.wrap, IntKind.bits, IntKind.signed]; omega
      by_cases h16 : i < 16
      · have g16 : ¬ (i : Int) ≥ 16 := by omega
        have g16' : (i : Int) < 16 := by omega
        have hai : al[i]? = some (al[i]'(by omega)) := List.getElem?_eq_getElem _
        have hmi : ml[i]? = some (ml[i]'(by omega)) := List.getElem?_eq_getElem _
        obtain ⟨m0, m1, _⟩ := hmr.grp i _ hmi
        have hoA : Oct (al[i]'(by omega)).bs := (hgr.row i _ (ss[i]'(by omega)) hai (List.getElem?_eq_getElem _)).1.oct
        have hoM : Oct (ml[i]'(by omega)).bs := HO.out _ (List.getElem_mem _)
        have hCN := cn_next hai
        have hAT := fun h => cn_at hai h
        have hlen := (hgr.row i _ (ss[i]'(by omega)) hai (List.getElem?_eq_getElem _)).2.1
        rw [hL.out] at hAT
        have eA := getD_some hai
        have eM := getD_some hmi
        have LN := fun h => load_no hqr h1 h2 i _ hai h
        have LY := fun h => load_yes hqr hgr i _ hai h
        generalize (al[i]'(by omega)) = ga at *
        generalize (ml[i]'(by omega)) = gm at *
        obtain ⟨th, mk, bs⟩ := ga
        obtain ⟨th', mk', bs'⟩ := gm
        dsimp only at *
        clear hqr hgr hmr hai hmi
        cases th with
        | false =>
          have LN2 := LN rfl
          clear LN LY hAT
          cases th' with
          | false =>
            have HN : Hid (∀ n, ∃ i' : Nat, i' ≤ 256 ∧ Value.int .i64 ((i : Int) + 1) = .int .i64 i' ∧ Value.int .i64 (cn al i : Nat) = .int .i64 (cn al i' : Nat) ∧ Below w.heap.size w (wr.drewN n) ∧ U.heap.size ≤ (wr.drewN n).heap.size ∧ (∀ x, x < i' → x < 16 → agr1 (al.getD x gp0) (ml.getD x gp0) = true) ∧ (0 < L.length → Rest (wr.drewN n) gl (cn al i') L)) := fun n => by
              refine ⟨i + 1, by omega, by go_num, by rw [hCN]; rfl, ⟨HB.out.os, HB.out.tape, HB.out.output, HB.out.size, HB.out.block⟩, HUs.out, fun x hx h16 => ?_, fun h => by rw [hCN]; exact ⟨(HR.out h).at_, (HR.out h).fz⟩⟩
              by_cases hx2 : x < i
              · exact HAG.out x hx2 h16
              · obtain rfl : x = i := by omega
                rw [eA, eM]; rfl
            clear hCN
            go_wp2_with fail
            with_reducible refine LN2.mono ?_
            rintro e z ⟨rfl, rfl⟩
            clear LN2
            go_wp2_with fail
            exact ⟨HN.out 0, by simp [intOf]; omega⟩
          | true =>
            have HF : Hid (agr al ml = false) := agr_no i h16 (by rw [eA, eM]; rfl)
            go_wp2_with fail
            with_reducible refine LN2.mono ?_
            rintro e z ⟨rfl, rfl⟩
            clear LN2
            go_wp2_with fail
            go_quiet (fail)
            go_wp2_with fail
            go_ret
            exact ⟨(congrArg (fun b => Ending.returned (Value.bool b)) HF.out).symm, ⟨HB.out.os, HB.out.tape, HB.out.output, HB.out.size, HB.out.block⟩⟩
        | true =>
          have LY2 := LY rfl
          have hAT2 := hAT rfl
          clear LN LY hAT
          cases th' with
          | false =>
            have HF : Hid (agr al ml = false) := agr_no i h16 (by rw [eA, eM]; rfl)
            go_wp2_with fail
            with_reducible refine LY2.mono ?_
            rintro e z ⟨⟨a', c', rfl, hT⟩, hz⟩
            clear LY2
            have HZ : Hid (Below w.heap.size w z) := Below.andThen HB.out hz
            have K1 : Kp [] wr z := Kp.of hz
            have d0 := K1.cell d0 (by simp)
            have m0 := K1.cell m0 (by simp)
            clear hT hz
            go_wp2_with fail
            go_ret
            exact ⟨(congrArg (fun b => Ending.returned (Value.bool b)) HF.out).symm, HZ.out⟩
          | true =>
            go_wp2_with fail
            with_reducible refine LY2.mono ?_
            rintro e z ⟨⟨a', c', rfl, hT⟩, hz⟩
            clear LY2
            have HZ : Hid (Below w.heap.size w z) := Below.andThen HB.out hz
            have K1 : Kp [] wr z := Kp.of hz
            have d0 := K1.cell d0 (by simp)
            have m0 := K1.cell m0 (by simp)
            have m1 := K1.cell m1 (by simp)
            have DN : ∀ n, Below z.heap.size z (z.drewN n) := fun n => ⟨rfl, rfl, rfl, Nat.le_refl _, fun _ _ => rfl⟩
            have CV := fun n => (hT.row.next (DN n)).str c'
            clear DN
            by_cases hbs : bs = bs'
            · subst hbs
              obtain ⟨hn, hat⟩ := hAT2
              have hp : 0 < L.length := by omega
              obtain ⟨rfl, hglU, _⟩ := HGL.out hp
              have hglr : gl < wr.heap.size := Nat.lt_of_lt_of_le hglU HUs.out
              have hRz : Rest z gl (cn al i) L := (HR.out hp).below hz hglr
              have lc := hRz.at_ (cn al i) (Nat.le_refl _) hn
              rw [hat] at lc
              obtain ⟨gb, hgb, hb0⟩ := Rest.of hT
              have HB0 : Hid (0 < bs.length → a' = some ⟨gb, 0, none⟩ ∧ gb < z.heap.size ∧ Rest z gb 0 bs) := hb0
              have hbl : bs.length ≤ 4096 := hlen
              have hzs : wr.heap.size ≤ z.heap.size := hz.size
              have hUw := HUs.out
              have HN : Hid (∀ vr : World, Kp [gb] z vr → (vr.cell? ⟨gl, cn al i, none⟩ = some (.int .u8 i) ∧ vr.frozen? ⟨gl, cn al i, none⟩ = false) ∧ ∃ i' : Nat, i' ≤ 256 ∧ Value.int .i64 ((i : Int) + 1) = .int .i64 i' ∧ Value.int .i64 ((cn al i : Nat) + 1) = .int .i64 (cn al i' : Nat) ∧ Below w.heap.size w (vr.setCell ⟨gl, cn al i, none⟩ (.int .u8 99)) ∧ U.heap.size ≤ (vr.setCell ⟨gl, cn al i, none⟩ (.int .u8 99)).heap.size ∧ (∀ x, x < i' → x < 16 → agr1 (al.getD x gp0) (ml.getD x gp0) = true) ∧ (0 < L.length → Rest (vr.setCell ⟨gl, cn al i, none⟩ (.int .u8 99)) gl (cn al i') L)) := fun vr hk => by
                have hR2 : Rest vr gl (cn al i) L := hRz.kp hk (by omega) (by simp; omega)
                have hbv : Below w.heap.size w vr := hk.below HZ.out HZ.out.size (fun x hx => by simp at hx; have := HB.out.size; omega)
                refine ⟨⟨by rw [hR2.at_ _ (Nat.le_refl _) hn, hat], hR2.fz _ hn⟩, i + 1, by omega, by go_num, by rw [hCN, if_pos trivial]; go_num, hbv.setCell hgw _, ?_, fun x hx h16 => ?_, fun _ => by rw [hCN, if_pos trivial]; exact hR2.set _⟩
                · have := hk.size
                  rw [World.size_setCell]; omega
                · by_cases hx2 : x < i
                  · exact HAG.out x hx2 h16
                  · obtain rfl : x = i := by omega
                    rw [eA, eM]; simp [agr1]
              have gn : (cn al i : Int) < (L.length : Int) := by omega
              have gn2 : (0 : Int) ≤ (cn al i : Int) := by omega
              generalize cn al i = N at *
              have gw64 : IntKind.i64.wrap (i : Int) = (i : Int) := wrap64 _ (by omega) (by omega)
              have gne : ((i : Int) != (i : Int)) = false := by simp
              have gne2 : (IntKind.i64.wrap (i : Int) != (i : Int)) = false := by rw [gw64]; exact gne
              have gnN : ¬ L.length ≤ N := by omega
              generalize hst : strOfNums bs = st at *
              have s1 : (st.toList == st.toList) = true := by simp
              have s2 : (st.toList != st.toList) = false := by simp
              clear hst hT hz hRz hb0 hCN hat hoA hoM
              go_wp2_with fail
              go_quiet (fail)
              clear CV m1 m0 d0 lc s1 s2
              go_wp2_with fail
              go_loopw [10] (fun u vr => ∃ x : Nat, x ≤ bs.length ∧ u = .int .i64 x ∧ Kp [gb] z vr ∧ (0 < bs.length → Rest vr gb x bs)) (fun u _ => bs.length - (intOf u).toNat)
              case atStart => exact ⟨0, by omega, rfl, ⟨rfl, rfl, rfl, Nat.le_refl _, fun _ _ _ => rfl⟩, fun h => ⟨(HB0.out h).2.2.at_, (HB0.out h).2.2.fz⟩⟩
              case round =>
                obtain ⟨x, hx, rfl, hk, hr⟩ := hrel
                have HK : Hid (Kp [gb] z wr) := hk
                by_cases hxl : x < bs.length
                · have gx : (x : Int) < (bs.length : Int) := by omega
                  have gx0 : (0 : Int) ≤ x := by omega
                  obtain ⟨rfl, _, _⟩ := HB0.out (by omega)
                  have hr := hr (by omega)
                  have HRx : Hid (Rest wr gb x bs) := hr
                  have y1 := hr.at_ x (Nat.le_refl _) hxl
                  have y2 := hr.fz x hxl
                  generalize bs.getD x 0 = bv at *
                  clear hr hk
                  go_wp2_with fail
                  exact ⟨⟨x + 1, by omega, by go_num, HK.out.set _ _ (Or.inl (by simp)), fun _ => HRx.out.set _⟩, by simp [intOf]; omega⟩
                · have gx : ¬ (x : Int) < (bs.length : Int) := by omega
                  obtain ⟨⟨y1, y2⟩, HN2⟩ := HN.out _ hk
                  have HN3 : Hid _ := HN2
                  clear hr hk HN2
                  go_wp2_with fail
                  exact ⟨HN3.out, by simp [intOf]; omega⟩
            · have HF : Hid (agr al ml = false) := agr_no i h16 (by rw [eA, eM]; simp [agr1, hbs])
              have hne : strOfNums bs ≠ strOfNums bs' := fun e => hbs (strOfNums_inj _ _ hoA hoM e)
              have n0 : ¬ (strOfNums bs).toList = (strOfNums bs').toList := fun e => hne (by
                rw [Lib.strOfNums_toList, Lib.strOfNums_toList] at e
                unfold strOfNums
                exact congrArg (fun l : List UInt8 => (⟨l.toArray⟩ : ByteArray)) e)
              have n1 : ((strOfNums bs).toList == (strOfNums bs').toList) = false := by simpa using n0
              have n2 : ((strOfNums bs).toList != (strOfNums bs').toList) = true := by simpa using n0
              clear hT hz hAT2
              generalize strOfNums bs = st at *
              generalize strOfNums bs' = st' at *
              go_wp2_with fail
              go_quiet (fail)
              go_wp2_with fail
              go_ret
              exact ⟨(congrArg (fun b => Ending.returned (Value.bool b)) HF.out).symm, ⟨HZ.out.os, HZ.out.tape, HZ.out.output, HZ.out.size, HZ.out.block⟩⟩
      · have g16 : (i : Int) ≥ 16 := by omega
        have LB := load_big (w := wr) q i (by omega)
        have hCN : cn al (i + 1) = cn al i := by rw [cn_big (by omega), cn_big (by omega)]
        have HN : Hid (∃ i' : Nat, i' ≤ 256 ∧ Value.int .i64 ((i : Int) + 1) = .int .i64 i' ∧ Value.int .i64 (cn al i : Nat) = .int .i64 (cn al i' : Nat) ∧ Below w.heap.size w wr ∧ U.heap.size ≤ wr.heap.size ∧ (∀ x, x < i' → x < 16 → agr1 (al.getD x gp0) (ml.getD x gp0) = true) ∧ (0 < L.length → Rest wr gl (cn al i') L)) :=
          ⟨i + 1, by omega, by go_num, by rw [hCN], HB.out, HUs.out, fun x hx h16 => HAG.out x (by omega) h16, fun h => by rw [hCN]; exact HR.out h⟩
        clear hCN hqr hgr hmr
        go_wp2_with fail
        with_reducible refine LB.mono ?_
        rintro e z ⟨rfl, rfl⟩
        clear LB
        go_wp2_with fail
        exact ⟨HN.out, by simp [intOf]; omega⟩
    · obtain rfl : i = 256 := by omega
      have eN : cn al 256 = L.length := by rw [cn_big (by omega), hL.out]
      have HF : Hid (agr al ml = true) := agr_yes fun x hx => HAG.out x (by omega) hx
      have b1 : ((L.length : Int) == (L.length : Int)) = true := by simp
      rw [eN]
      clear hqr hgr hmr eN
      go_wp2_with fail
      go_ret
      exact ⟨(congrArg (fun b => Ending.returned (Value.bool b)) HF.out).symm, HB.out⟩
#print axioms tells_any
end Go.Proofs.Ytgpbmccjcjoijaa
