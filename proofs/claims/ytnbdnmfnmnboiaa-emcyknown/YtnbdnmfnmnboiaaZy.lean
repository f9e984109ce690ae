/-
  EmcyHistory of any row of calls.
-/
import Derived.Test.YtnbdnmfnmnboiaaZv
import Derived.Test.YtnbdnmfnmnboiaaZw
import Derived.BigQuiet
import Derived.Deep.QuietTactic
namespace Go.Proofs.Ytnbdnmfnmnboiaa
open Go.RowKit

/-- The history is what was raised, the newest first. -/
structure Hs (S : ES) (R : List Int) : Prop where
  ln : S.ln = min R.length 16
  at_ : ∀ k, k < S.ln → S.hs.getD k 0 = R.getD (R.length - 1 - k) 0
theorem Hs.new (a i : Int) : Hs (newS a i) [] := ⟨rfl, fun k hk => by simp [newS] at hk⟩
theorem Hs.same {S S' : ES} {R : List Int} (h : Hs S R) (h1 : S'.hs = S.hs) (h2 : S'.ln = S.ln) : Hs S' R := ⟨by rw [h2]; exact h.ln, fun k hk => by rw [h1]; exact h.at_ k (by rw [← h2]; exact hk)⟩
theorem Hs.tick {S : ES} {R : List Int} (h : Hs S R) (now : Int) : Hs (S.tick now) R := by
  unfold ES.tick
  split
  · exact h.same rfl rfl
  · exact h
theorem Hs.clear {S : ES} {R : List Int} (h : Hs S R) (c : Int) : Hs (S.clear c) R := by
  unfold ES.clear
  split
  · exact h.same rfl rfl
  · exact h
theorem Hs.raised {S : ES} {R : List Int} (h : Hs S R) (hok : S.Ok) (c : Int) (b : Nat) (i0 i1 i2 i3 i4 : Int) : Hs (S.raised c b i0 i1 i2 i3 i4) (R ++ [fdV c i0 i1]) := by
  have h1 := h.ln
  have h16 := hok.h16
  refine ⟨?_, fun k hk => ?_⟩
  · show min (S.ln + 1) 16 = _
    rw [h1]; simp; omega
  · have hk' : k < min (S.ln + 1) 16 := hk
    show (hAdd S.hs (fdV c i0 i1)).getD k 0 = _
    unfold hAdd
    cases k with
    | zero => simp
    | succ k =>
      have hk2 : k < S.ln := by omega
      have e := h.at_ k hk2
      have hl : (R ++ [fdV c i0 i1]).length - 1 - (k + 1) = R.length - 1 - k := by simp; omega
      rw [hl]
      have e1 : (fdV c i0 i1 :: S.hs.take 15).getD (k + 1) 0 = S.hs.getD k 0 := by
        simp only [List.getD_eq_getElem?_getD, List.getElem?_cons_succ, List.getElem?_take]
        rw [if_pos (by omega)]
      have e2 : (R ++ [fdV c i0 i1]).getD (R.length - 1 - k) 0 = R.getD (R.length - 1 - k) 0 := by
        simp only [List.getD_eq_getElem?_getD]
        rw [List.getElem?_append_left (by omega)]
      rw [e1, e2]; exact e
theorem Hs.none {S : ES} {R : List Int} (h : Hs S R) {c : Int} {b : Nat} {i0 i1 i2 i3 i4 : Int} (hr : S.raiseC c b ≠ 0) : Hs (S.raise c b i0 i1 i2 i3 i4) R := by
  unfold ES.raise
  rw [if_neg hr]
  exact h
theorem Hs.raise {S : ES} {R : List Int} (h : Hs S R) (hok : S.Ok) {c : Int} {b : Nat} {i0 i1 i2 i3 i4 : Int} (hr : S.raiseC c b = 0) : Hs (S.raise c b i0 i1 i2 i3 i4) (R ++ [fdV c i0 i1]) := by
  unfold ES.raise
  rw [if_pos hr]
  exact h.raised hok c b i0 i1 i2 i3 i4
/-- Where a round stands. -/
structure Hst (w wr : World) (p m : Nat) (S : ES) (R : List Int) (rv : Value) : Prop where
  ez : Ez w wr p m S rv.ownBlock.toList
  row : Own wr 52 1 rv R.length (R.map (Value.int .u32))
  own : ∀ g, rv.ownBlock = some g → w.heap.size ≤ g
  hs : Hs S R
theorem Ez.ok {w0 w : World} {p m : Nat} {S : ES} {A : List Nat} (h : Ez w0 w p m S A) : S.Ok := by
  obtain ⟨v, e, _⟩ := h
  exact e.ok
theorem Ez.less {w0 w : World} {p m : Nat} {S : ES} {A A' : List Nat} (h : Ez w0 w p m S A) (hA : ∀ a ∈ A', a ∈ A) : Ez w0 w p m S A' := by
  obtain ⟨v, e, h2, h3, h4⟩ := h
  exact ⟨v, e, fun k hk => ⟨(h2 k hk).1, fun hm => (h2 k hk).2 (hA k hm)⟩, fun a ha => h3 a (hA a ha), h4⟩
theorem Hst.next {w wr w' : World} {p m : Nat} {S : ES} {R : List Int} {rv : Value} (h : Hst w wr p m S R rv) (hb : Below wr.heap.size wr w') : Hst w w' p m S R rv := ⟨h.ez.next hb, h.row.next hb, h.own, h.hs⟩
/-- A row that grows by one field. -/
theorem grow_run {w wr : World} {p m : Nat} {S : ES} {R : List Int} {rv : Value} (h : Ez w wr p m S rv.ownBlock.toList) (hR : Own wr 52 1 rv R.length (R.map (Value.int .u32))) (ho : ∀ g, rv.ownBlock = some g → w.heap.size ≤ g) (hl : R.length ≤ 1000) (f : Int) :
    ∃ g o cap w', (Builtin.append_ #[51, 51] 51 #[rv, .slice (some ⟨wr.heap.size, 0, none⟩) 1 1]).run Try.prog (wr.alloc (.cells #[.int .u32 f] 52)) = .ok (.slice (some ⟨g, o, none⟩) (R.length + 1) cap) w' ∧
      Ez w w' p m S [g] ∧ OwnAt w' 52 1 g o (R.length + 1) cap ((R ++ [f]).map (Value.int .u32)) ∧ w.heap.size ≤ g ∧ Kp rv.ownBlock.toList wr w' := by
  obtain ⟨i0, hi, hz0, hz1, hz2⟩ := info_parts infoU
  have B1 : Below wr.heap.size wr (wr.alloc (.cells #[.int .u32 f] 52)) := (by repeat (first | exact Below.refl _ _ | apply Below.drew | apply Below.al))
  obtain ⟨g, o, cap, w', r, hO, hg, hk⟩ := Own.append (ty := 51) Try.underlying51 hi hz0 hz1 hz2 rfl (by decide) (hR.next B1) ⟨wr.heap.size, 0, none⟩ 1 1 [.int .u32 f] rfl (fun j u hu => by rw [add_at, Nat.zero_add, cell_of_row _ _ j _ _ _ (at11 wr (.cells #[.int .u32 f] 52) wr.heap.size rfl)]; simpa using hu) (fun u hu => by simp at hu; subst hu; rfl) (by decide) (by omega) (by decide)
  have hgw : w.heap.size ≤ g := by
    rcases hg with hg | hg
    · exact ho g hg
    · have := h.bel.size
      rw [hg]; simp; omega
  have kk : Kp rv.ownBlock.toList wr w' := (Kp.al (Kp.refl _ _) _).trans hk
  refine ⟨g, o, cap, w', r, ?_, by rw [List.map_append]; exact hO, hgw, kk⟩
  obtain ⟨v, e, h2, h3, h4⟩ := h
  refine ⟨v, e.kp kk (fun k hk => (h2 k hk).2), fun k hk => ⟨(h2 k hk).1, fun hm => ?_⟩, fun a ha => ?_, Kp.below h4 kk h4.size (fun b hb => ho b (by simpa using hb))⟩
  · simp at hm
    subst hm
    rcases hg with hg | hg
    · exact (h2 _ hk).2 (by simp [hg])
    · have := e.inh _ hk
      rw [hg] at this; simp at this; omega
  · simp at ha; subst ha; exact hO.lt

set_option linter.unusedSimpArgs false in
set_option maxHeartbeats 4000000 in
set_option maxRecDepth 100000 in
theorem history_many (a : Option Addr) (len cap : Nat) (w : World) (hl : 300 < len) : Calls Try.prog 6 #[.slice a len cap] w fun e w' => e = .returned (.bool true) ∧ Below w.heap.size w w' := by
  have hl' : (300 : Int) < (len : Int) := by omega
  have NP := fun W => new_ok 1 0 (by decide) (by decide) W
  go_enter Try.func6, Try.ntmps6
  go_wp2_with fail
  refine (NP _).mono ?_
  rintro e w1 ⟨⟨p, m, rfl, hE, lp, lm⟩, b1⟩
  clear hE lp lm
  go_wp2_with fail
  refine (works_any _).mono ?_
  rintro e w' ⟨rfl, hb⟩
  go_wp2_with fail
  go_ret
  exact ⟨rfl, Below.andThen b1 hb⟩
set_option linter.unusedSimpArgs false in
set_option maxHeartbeats 4000000 in
set_option maxRecDepth 100000 in
theorem history_good (a : Option Addr) (len cap : Nat) (L : List Opx) (w : World) (o : IsOpx w a len L) (hl : len ≤ 300) : Calls Try.prog 6 #[.slice a len cap] w fun e w' => e = .returned (.bool true) ∧ Below w.heap.size w w' := by
  have hl' : ¬ (300 : Int) < (len : Int) := by omega
  have NP := fun W => new_ok 1 0 (by decide) (by decide) W
  have O : Hid (IsOpx w a len L) := o
  have lsz := o.size
  clear o
  go_enter Try.func6, Try.ntmps6
  go_wp2_with fail
  refine (NP _).mono ?_
  rintro e w1 ⟨⟨p, m, rfl, hE, lp, lm⟩, b1⟩
  have T : Hid (Hst w w1 p m (newS 1 0) [] (.slice none 0 0)) := ⟨Ez.new hE lp lm b1, own_nil _ _ _, (fun g hg => by cases hg), Hs.new _ _⟩
  clear hE lp lm b1 NP
  go_wp2_with fail
  go_loopw [5, 6] (fun rv u wr => ∃ i : Nat, i ≤ len ∧ u = .int .i64 (i : Int) ∧ ∃ S R, Hid (Hst w wr p m S R rv ∧ R.length ≤ i)) (fun _ u _ => len - (intOf u).toNat)
  case atStart => exact ⟨0, Nat.zero_le _, rfl, _, _, T.out, Nat.le_refl _⟩
  case round =>
    clear T
    obtain ⟨i, hil, rfl, S, R, TR⟩ := hrel
    obtain ⟨n, hn⟩ : ∃ n, Hid (n = R.length) := ⟨_, rfl⟩
    obtain ⟨ra, rc, hrv⟩ : ∃ ra rc, u5 = .slice ra n rc := by rw [hn.out]; exact TR.out.1.row.form
    subst hrv
    by_cases hlt : i < len
    rotate_left
    · have g1 : ¬ (i : Int) < (len : Int) := by omega
      have BB : Hid (Below w.heap.size w wr) := TR.out.1.ez.bel
      clear TR
      go_wp2_with fail
      refine (works_any _).mono ?_
      rintro e w' ⟨rfl, hb⟩
      go_wp2_with fail
      go_ret
      exact ⟨rfl, Below.andThen BB.out hb⟩
    have g1 : (i : Int) < (len : Int) := by omega
    obtain ⟨x, hx⟩ : ∃ x, L[i]? = some x := ⟨L[i]'(by omega), List.getElem?_eq_getElem _⟩
    have XO : Hid x.Ok := O.out.good x (List.mem_of_getElem? hx)
    obtain ⟨b, off, e2, hc0⟩ := O.out.at_ (by omega)
    subst e2
    have HC : Hid (∀ W, Below w.heap.size w W → ∀ j v, x.C[j]? = some v → W.cell? ⟨b, off + i * 9 + j, none⟩ = some v) := fun W hW j v hv => cl11 hW (hc0 i x hx j v hv)
    clear hc0
    have wi : IntKind.i64.wrap ((i : Int) + 1) = ((i + 1 : Nat) : Int) := by rw [IntKind.wrap_i64]; omega
    have B0 := TR.out.1.ez.bel
    have c0 : wr.cell? ⟨b, off + i * 9, none⟩ = some (.int .u8 x.k) := HC.out _ B0 0 _ rfl
    have c1 : wr.cell? ⟨b, off + i * 9 + 1, none⟩ = some (.int .u16 x.c) := HC.out _ B0 1 _ rfl
    have c2 : wr.cell? ⟨b, off + i * 9 + 2, none⟩ = some (.int .u8 (x.b : Int)) := HC.out _ B0 2 _ rfl
    have c3 : wr.cell? ⟨b, off + i * 9 + 3, none⟩ = some (.int .u8 x.i0) := HC.out _ B0 3 _ rfl
    have c4 : wr.cell? ⟨b, off + i * 9 + 4, none⟩ = some (.int .u8 x.i1) := HC.out _ B0 4 _ rfl
    have c5 : wr.cell? ⟨b, off + i * 9 + 5, none⟩ = some (.int .u8 x.i2) := HC.out _ B0 5 _ rfl
    have c6 : wr.cell? ⟨b, off + i * 9 + 6, none⟩ = some (.int .u8 x.i3) := HC.out _ B0 6 _ rfl
    have c7 : wr.cell? ⟨b, off + i * 9 + 7, none⟩ = some (.int .u8 x.i4) := HC.out _ B0 7 _ rfl
    have c8 : wr.cell? ⟨b, off + i * 9 + 8, none⟩ = some (.int .i64 x.now) := HC.out _ B0 8 _ rfl
    clear B0
    have km := Int.tmod_eq_emod_of_nonneg (b := 8) XO.out.k0
    have kp := Int.emod_nonneg x.k (b := 8) (by decide)
    obtain ⟨B, hB⟩ : ∃ B, B = wr.heap.size := ⟨_, rfl⟩
    obtain ⟨y, hy⟩ : ∃ y, y = wr.alloc (.cells (rowX x) 35) := ⟨_, rfl⟩
    have YB : Below wr.heap.size wr y := by rw [hy]; exact (by repeat (first | exact Below.refl _ _ | apply Below.drew | apply Below.al))
    have FB : y.heap[B]? = some (.cells (rowX x) 35 (0, 0)) := by rw [hy, hB]; exact at11 _ _ _ rfl
    have EY : Ez w y p m S (B :: (Value.slice ra n rc).ownBlock.toList) := by rw [hB]; exact TR.out.1.ez.add YB _ (Nat.le_refl _) (by rw [hy]; simp)
    have RY := TR.out.1.row.next YB
    have OY : Hid (∀ g, (Value.slice ra n rc).ownBlock = some g → w.heap.size ≤ g) := TR.out.1.own
    have HY : Hid (Hs S R ∧ R.length ≤ i) := ⟨TR.out.1.hs, TR.out.2⟩
    have LB := lt_of_heap FB
    have HYY : Hid (y = wr.alloc (.cells (rowX x) 35) ∧ B = wr.heap.size) := ⟨hy, hB⟩
    have e0 : y.cell? ⟨B, 0, none⟩ = some (.int .u8 x.k) := by rw [cell_of_row y _ 0 _ _ _ FB]; rfl
    have e1 : y.cell? ⟨B, 1, none⟩ = some (.int .u16 x.c) := by rw [cell_of_row y _ 1 _ _ _ FB]; rfl
    have e2 : y.cell? ⟨B, 2, none⟩ = some (.int .u8 (x.b : Int)) := by rw [cell_of_row y _ 2 _ _ _ FB]; rfl
    have e3 : y.cell? ⟨B, 3, none⟩ = some (.int .u8 x.i0) := by rw [cell_of_row y _ 3 _ _ _ FB]; rfl
    have e4 : y.cell? ⟨B, 4, none⟩ = some (.int .u8 x.i1) := by rw [cell_of_row y _ 4 _ _ _ FB]; rfl
    have e5 : y.cell? ⟨B, 5, none⟩ = some (.int .u8 x.i2) := by rw [cell_of_row y _ 5 _ _ _ FB]; rfl
    have e6 : y.cell? ⟨B, 6, none⟩ = some (.int .u8 x.i3) := by rw [cell_of_row y _ 6 _ _ _ FB]; rfl
    have e7 : y.cell? ⟨B, 7, none⟩ = some (.int .u8 x.i4) := by rw [cell_of_row y _ 7 _ _ _ FB]; rfl
    have e8 : y.cell? ⟨B, 8, none⟩ = some (.int .i64 x.now) := by rw [cell_of_row y _ 8 _ _ _ FB]; rfl
    clear YB TR hy hB
    by_cases h3 : x.k % 8 < 3
    rotate_left
    · have n3 : ¬ x.k % 8 < 3 := h3
      by_cases h4 : x.k % 8 = 3
      · have R1 : x.k.tmod 8 = 3 := by rw [km]; exact h4
        clear km h4 h3 n3
        go_wp2_with fail
        rw [← HYY.out.1]
        clear c0 c1 c2 c3 c4 c5 c6 c7 c8
        go_wp2_with fail
        refine (EY.call fun v hv => clear_any hv x.c).mono ?_
        rintro e wz ⟨rfl, EZ0, KZ⟩
        have RZ := RY.same (fun g hg => KZ g (by simp [hg]))
        have HZ : Hid (Hs (S.clear x.c) R) := HY.out.1.clear _
        have EZ := EZ0.less (A' := (Value.slice ra n rc).ownBlock.toList) (by intro a ha; simp [ha])
        clear EZ0 KZ EY RY e0 e1 e2 e3 e4 e5 e6 e7 e8
        have OZ : Hid (∀ g, (Value.slice ra n rc).ownBlock = some g → w.heap.size ≤ g) := OY.out
        have R2L : Hid (R.length ≤ i + 1) := by show _ ≤ _; have := HY.out.2; omega
        have hn2 : Hid (n = R.length) := hn.out
        go_wp2_with fail
        refine (EZ.call fun v hv => tick_any hv (i : Int)).mono ?_
        rintro e wt ⟨rfl, ET, KT⟩
        have HST : Hst w wt p m ((S.clear x.c).tick (i : Int)) R (Value.slice ra n rc) := ⟨ET, RZ.same (fun g hg => KT g (by first | (simp [hg]; done) | (cases hg; simp))), OZ.out, HZ.out.tick _⟩
        clear EZ RZ OZ HZ ET KT
        go_wp2_with fail
        obtain ⟨S3, hS3⟩ : ∃ S3, S3 = (S.clear x.c).tick (i : Int) := ⟨_, rfl⟩
        rw [← hS3] at HST
        clear hS3
        have HI : Calls Try.prog 20 #[.pointer (some ⟨p, 0, none⟩)] wt fun e w' => HsPost wt w' S3 e := by
          obtain ⟨v, hv, _⟩ := HST.ez
          exact history_any hv
        refine HI.mono ?_
        rintro e wh ⟨g, o, cap2, rfl, hO, hg, bh⟩
        clear HI
        have HH : Hid (Hst w wh p m S3 R (Value.slice ra n rc)) := HST.next bh
        have H16 : Hid (S3.hs.length = 16) := HST.ez.ok.h16
        obtain ⟨ln, hln⟩ : ∃ ln, Hid (ln = S3.ln) := ⟨_, rfl⟩
        have OH : Hid (OwnAt wh 52 1 g o ln cap2 ((S3.hs.take ln).map (Value.int .u32))) := by rw [hln.out]; exact hO
        rw [← hln.out]
        clear HST hO hg bh
        have N300 : Hid (n ≤ 301) := by show _ ≤ _; have := R2L.out; have := hn2.out; omega
        have LN : Hid (ln = min n 16) := by show _ = _; rw [hln.out, HH.out.hs.ln, hn2.out]
        by_cases h16 : (16 : Int) < (n : Int)
        · obtain rfl : ln = 16 := by have := LN.out; omega
          go_wp2_with fail
          go_loopw [9] (fun u wv => ∃ k : Nat, k ≤ 16 ∧ u = .int .i64 (k : Int) ∧ Hid (Below wh.heap.size wh wv)) (fun u _ => 16 - (intOf u).toNat)
          case atStart => exact ⟨0, Nat.zero_le _, rfl, Below.refl _ _⟩
          case round =>
            obtain ⟨k, hk, rfl, HB⟩ := hrel
            by_cases hkl : k < 16
            · have g2 : (k : Int) < (16 : Int) := by omega
              obtain ⟨j, hj⟩ : ∃ j, Hid (j = n - 1 - k) := ⟨_, rfl⟩
              have hjn : j < n := by have := hj.out; have := LN.out; omega
              have gj : (j : Int) < (n : Int) := by omega
              have wA : IntKind.i64.wrap ((n : Int) - 1) = (n : Int) - 1 := w64 _ (by omega) (by have := N300.out; omega)
              have wB : IntKind.i64.wrap ((n : Int) - 1 - (k : Int)) = (j : Int) := by rw [w64 _ (by omega) (by have := N300.out; omega)]; have := hj.out; omega
              have OHk := OH.out.same (HB.out.block g OH.out.lt)
              have HHk := HH.out.next HB.out
              obtain ⟨z, hz⟩ : ∃ z, z = S3.hs.getD k 0 := ⟨_, rfl⟩
              have hk16 : k < S3.hs.length := by have h1 := H16.out; have h2 := LN.out; omega
              have ck := OHk.cell k (.int .u32 z) (by rw [hz]; simp [List.getElem?_take, hkl, List.getD_eq_getElem?_getD, hk16])
              have hrow : Own wr 52 1 (Value.slice ra n rc) n (R.map (Value.int .u32)) := by have q := HHk.row; rw [← hn2.out] at q; exact q
              obtain ⟨g5, o5, c5', e5, hR5⟩ := hrow.pos (by omega)
              cases e5
              have hjR : j < R.length := by rw [← hn2.out]; exact hjn
              have cj := hR5.cell j (.int .u32 z) (by rw [hz, HHk.hs.at_ k (by rw [← hln.out]; exact hkl), ← hn2.out, ← hj.out]; simp only [List.getElem?_map, List.getD_eq_getElem?_getD, List.getElem?_eq_getElem hjR, Option.map_some, Option.getD_some])
              have wk : IntKind.i64.wrap ((k : Int) + 1) = ((k + 1 : Nat) : Int) := by rw [IntKind.wrap_i64]; have := LN.out; omega
              clear OHk HHk hR5 hz hk16 hjR
              go_wp2_with fail
              go_quiet (fail)
              go_wp2_with fail
              exact ⟨⟨k + 1, by omega, by go_num, Below.trans HB.out ((below_drewN (Below.refl _ _) nq).mono HB.out.size)⟩, by simp [intOf]; omega⟩
            · have g2 : ¬ (k : Int) < (16 : Int) := by omega
              have FIN : Hid _ := And.intro (HH.out.next HB.out) R2L.out
              clear HB
              go_wp2_with fail
              exact ⟨⟨i + 1, by omega, by go_num, S3, R, FIN.out⟩, by simp [intOf]; omega⟩
        · obtain rfl : n = ln := by have := LN.out; omega
          go_wp2_with fail
          go_loopw [9] (fun u wv => ∃ k : Nat, k ≤ n ∧ u = .int .i64 (k : Int) ∧ Hid (Below wh.heap.size wh wv)) (fun u _ => n - (intOf u).toNat)
          case atStart => exact ⟨0, Nat.zero_le _, rfl, Below.refl _ _⟩
          case round =>
            obtain ⟨k, hk, rfl, HB⟩ := hrel
            by_cases hkl : k < n
            · have g2 : (k : Int) < (n : Int) := by omega
              obtain ⟨j, hj⟩ : ∃ j, Hid (j = n - 1 - k) := ⟨_, rfl⟩
              have hjn : j < n := by have := hj.out; have := LN.out; omega
              have gj : (j : Int) < (n : Int) := by omega
              have wA : IntKind.i64.wrap ((n : Int) - 1) = (n : Int) - 1 := w64 _ (by omega) (by have := N300.out; omega)
              have wB : IntKind.i64.wrap ((n : Int) - 1 - (k : Int)) = (j : Int) := by rw [w64 _ (by omega) (by have := N300.out; omega)]; have := hj.out; omega
              have OHk := OH.out.same (HB.out.block g OH.out.lt)
              have HHk := HH.out.next HB.out
              obtain ⟨z, hz⟩ : ∃ z, z = S3.hs.getD k 0 := ⟨_, rfl⟩
              have hk16 : k < S3.hs.length := by have h1 := H16.out; have h2 := LN.out; omega
              have ck := OHk.cell k (.int .u32 z) (by rw [hz]; simp [List.getElem?_take, hkl, List.getD_eq_getElem?_getD, hk16])
              have hrow : Own wr 52 1 (Value.slice ra n rc) n (R.map (Value.int .u32)) := by have q := HHk.row; rw [← hn2.out] at q; exact q
              obtain ⟨g5, o5, c5', e5, hR5⟩ := hrow.pos (by omega)
              cases e5
              have hjR : j < R.length := by rw [← hn2.out]; exact hjn
              have cj := hR5.cell j (.int .u32 z) (by rw [hz, HHk.hs.at_ k (by rw [← hln.out]; exact hkl), ← hn2.out, ← hj.out]; simp only [List.getElem?_map, List.getD_eq_getElem?_getD, List.getElem?_eq_getElem hjR, Option.map_some, Option.getD_some])
              have wk : IntKind.i64.wrap ((k : Int) + 1) = ((k + 1 : Nat) : Int) := by rw [IntKind.wrap_i64]; have := LN.out; omega
              clear OHk HHk hR5 hz hk16 hjR
              go_wp2_with fail
              go_quiet (fail)
              go_wp2_with fail
              exact ⟨⟨k + 1, by omega, by go_num, Below.trans HB.out ((below_drewN (Below.refl _ _) nq).mono HB.out.size)⟩, by simp [intOf]; omega⟩
            · have g2 : ¬ (k : Int) < (n : Int) := by omega
              have FIN : Hid _ := And.intro (HH.out.next HB.out) R2L.out
              clear HB
              go_wp2_with fail
              exact ⟨⟨i + 1, by omega, by go_num, S3, R, FIN.out⟩, by simp [intOf]; omega⟩
      · have R1 : x.k.tmod 8 = x.k % 8 := km
        clear km h3
        go_wp2_with fail
        rw [← HYY.out.1]
        clear c0 c1 c2 c3 c4 c5 c6 c7 c8
        go_wp2_with fail
        have EZ := EY.less (A' := (Value.slice ra n rc).ownBlock.toList) (by intro a ha; simp [ha])
        have RZ := RY
        have HZ : Hid (Hs S R) := HY.out.1
        clear EY RY e0 e1 e2 e3 e4 e5 e6 e7 e8
        have OZ : Hid (∀ g, (Value.slice ra n rc).ownBlock = some g → w.heap.size ≤ g) := OY.out
        have R2L : Hid (R.length ≤ i + 1) := by show _ ≤ _; have := HY.out.2; omega
        have hn2 : Hid (n = R.length) := hn.out
        refine (EZ.call fun v hv => tick_any hv (i : Int)).mono ?_
        rintro e wt ⟨rfl, ET, KT⟩
        have HST : Hst w wt p m (S.tick (i : Int)) R (Value.slice ra n rc) := ⟨ET, RZ.same (fun g hg => KT g (by first | (simp [hg]; done) | (cases hg; simp))), OZ.out, HZ.out.tick _⟩
        clear EZ RZ OZ HZ ET KT
        go_wp2_with fail
        obtain ⟨S3, hS3⟩ : ∃ S3, S3 = S.tick (i : Int) := ⟨_, rfl⟩
        rw [← hS3] at HST
        clear hS3
        have HI : Calls Try.prog 20 #[.pointer (some ⟨p, 0, none⟩)] wt fun e w' => HsPost wt w' S3 e := by
          obtain ⟨v, hv, _⟩ := HST.ez
          exact history_any hv
        refine HI.mono ?_
        rintro e wh ⟨g, o, cap2, rfl, hO, hg, bh⟩
        clear HI
        have HH : Hid (Hst w wh p m S3 R (Value.slice ra n rc)) := HST.next bh
        have H16 : Hid (S3.hs.length = 16) := HST.ez.ok.h16
        obtain ⟨ln, hln⟩ : ∃ ln, Hid (ln = S3.ln) := ⟨_, rfl⟩
        have OH : Hid (OwnAt wh 52 1 g o ln cap2 ((S3.hs.take ln).map (Value.int .u32))) := by rw [hln.out]; exact hO
        rw [← hln.out]
        clear HST hO hg bh
        have N300 : Hid (n ≤ 301) := by show _ ≤ _; have := R2L.out; have := hn2.out; omega
        have LN : Hid (ln = min n 16) := by show _ = _; rw [hln.out, HH.out.hs.ln, hn2.out]
        by_cases h16 : (16 : Int) < (n : Int)
        · obtain rfl : ln = 16 := by have := LN.out; omega
          go_wp2_with fail
          go_loopw [9] (fun u wv => ∃ k : Nat, k ≤ 16 ∧ u = .int .i64 (k : Int) ∧ Hid (Below wh.heap.size wh wv)) (fun u _ => 16 - (intOf u).toNat)
          case atStart => exact ⟨0, Nat.zero_le _, rfl, Below.refl _ _⟩
          case round =>
            obtain ⟨k, hk, rfl, HB⟩ := hrel
            by_cases hkl : k < 16
            · have g2 : (k : Int) < (16 : Int) := by omega
              obtain ⟨j, hj⟩ : ∃ j, Hid (j = n - 1 - k) := ⟨_, rfl⟩
              have hjn : j < n := by have := hj.out; have := LN.out; omega
              have gj : (j : Int) < (n : Int) := by omega
              have wA : IntKind.i64.wrap ((n : Int) - 1) = (n : Int) - 1 := w64 _ (by omega) (by have := N300.out; omega)
              have wB : IntKind.i64.wrap ((n : Int) - 1 - (k : Int)) = (j : Int) := by rw [w64 _ (by omega) (by have := N300.out; omega)]; have := hj.out; omega
              have OHk := OH.out.same (HB.out.block g OH.out.lt)
              have HHk := HH.out.next HB.out
              obtain ⟨z, hz⟩ : ∃ z, z = S3.hs.getD k 0 := ⟨_, rfl⟩
              have hk16 : k < S3.hs.length := by have h1 := H16.out; have h2 := LN.out; omega
              have ck := OHk.cell k (.int .u32 z) (by rw [hz]; simp [List.getElem?_take, hkl, List.getD_eq_getElem?_getD, hk16])
              have hrow : Own wr 52 1 (Value.slice ra n rc) n (R.map (Value.int .u32)) := by have q := HHk.row; rw [← hn2.out] at q; exact q
              obtain ⟨g5, o5, c5', e5, hR5⟩ := hrow.pos (by omega)
              cases e5
              have hjR : j < R.length := by rw [← hn2.out]; exact hjn
              have cj := hR5.cell j (.int .u32 z) (by rw [hz, HHk.hs.at_ k (by rw [← hln.out]; exact hkl), ← hn2.out, ← hj.out]; simp only [List.getElem?_map, List.getD_eq_getElem?_getD, List.getElem?_eq_getElem hjR, Option.map_some, Option.getD_some])
              have wk : IntKind.i64.wrap ((k : Int) + 1) = ((k + 1 : Nat) : Int) := by rw [IntKind.wrap_i64]; have := LN.out; omega
              clear OHk HHk hR5 hz hk16 hjR
              go_wp2_with fail
              go_quiet (fail)
              go_wp2_with fail
              exact ⟨⟨k + 1, by omega, by go_num, Below.trans HB.out ((below_drewN (Below.refl _ _) nq).mono HB.out.size)⟩, by simp [intOf]; omega⟩
            · have g2 : ¬ (k : Int) < (16 : Int) := by omega
              have FIN : Hid _ := And.intro (HH.out.next HB.out) R2L.out
              clear HB
              go_wp2_with fail
              exact ⟨⟨i + 1, by omega, by go_num, S3, R, FIN.out⟩, by simp [intOf]; omega⟩
        · obtain rfl : n = ln := by have := LN.out; omega
          go_wp2_with fail
          go_loopw [9] (fun u wv => ∃ k : Nat, k ≤ n ∧ u = .int .i64 (k : Int) ∧ Hid (Below wh.heap.size wh wv)) (fun u _ => n - (intOf u).toNat)
          case atStart => exact ⟨0, Nat.zero_le _, rfl, Below.refl _ _⟩
          case round =>
            obtain ⟨k, hk, rfl, HB⟩ := hrel
            by_cases hkl : k < n
            · have g2 : (k : Int) < (n : Int) := by omega
              obtain ⟨j, hj⟩ : ∃ j, Hid (j = n - 1 - k) := ⟨_, rfl⟩
              have hjn : j < n := by have := hj.out; have := LN.out; omega
              have gj : (j : Int) < (n : Int) := by omega
              have wA : IntKind.i64.wrap ((n : Int) - 1) = (n : Int) - 1 := w64 _ (by omega) (by have := N300.out; omega)
              have wB : IntKind.i64.wrap ((n : Int) - 1 - (k : Int)) = (j : Int) := by rw [w64 _ (by omega) (by have := N300.out; omega)]; have := hj.out; omega
              have OHk := OH.out.same (HB.out.block g OH.out.lt)
              have HHk := HH.out.next HB.out
              obtain ⟨z, hz⟩ : ∃ z, z = S3.hs.getD k 0 := ⟨_, rfl⟩
              have hk16 : k < S3.hs.length := by have h1 := H16.out; have h2 := LN.out; omega
              have ck := OHk.cell k (.int .u32 z) (by rw [hz]; simp [List.getElem?_take, hkl, List.getD_eq_getElem?_getD, hk16])
              have hrow : Own wr 52 1 (Value.slice ra n rc) n (R.map (Value.int .u32)) := by have q := HHk.row; rw [← hn2.out] at q; exact q
              obtain ⟨g5, o5, c5', e5, hR5⟩ := hrow.pos (by omega)
              cases e5
              have hjR : j < R.length := by rw [← hn2.out]; exact hjn
              have cj := hR5.cell j (.int .u32 z) (by rw [hz, HHk.hs.at_ k (by rw [← hln.out]; exact hkl), ← hn2.out, ← hj.out]; simp only [List.getElem?_map, List.getD_eq_getElem?_getD, List.getElem?_eq_getElem hjR, Option.map_some, Option.getD_some])
              have wk : IntKind.i64.wrap ((k : Int) + 1) = ((k + 1 : Nat) : Int) := by rw [IntKind.wrap_i64]; have := LN.out; omega
              clear OHk HHk hR5 hz hk16 hjR
              go_wp2_with fail
              go_quiet (fail)
              go_wp2_with fail
              exact ⟨⟨k + 1, by omega, by go_num, Below.trans HB.out ((below_drewN (Below.refl _ _) nq).mono HB.out.size)⟩, by simp [intOf]; omega⟩
            · have g2 : ¬ (k : Int) < (n : Int) := by omega
              have FIN : Hid _ := And.intro (HH.out.next HB.out) R2L.out
              clear HB
              go_wp2_with fail
              exact ⟨⟨i + 1, by omega, by go_num, S3, R, FIN.out⟩, by simp [intOf]; omega⟩
    · have R1 : x.k.tmod 8 = x.k % 8 := km
      have n4 : ¬ x.k % 8 = 3 := by omega
      have RC := EY.call fun v hv => raise_any hv x.c x.b x.i0 x.i1 x.i2 x.i3 x.i4 XO.out.c0 XO.out.o
      have SO : Hid S.Ok := EY.ok
      clear km
      by_cases hr : S.raiseC x.c x.b = 0
      · rw [hr] at RC
        have HR0 : Hid (S.raiseC x.c x.b = 0) := hr
        clear hr
        obtain ⟨FB1, FB2⟩ := fd_bits XO.out.c0 (XO.out.o x.i0 (by simp)) (XO.out.o x.i1 (by simp))
        obtain ⟨F, hF⟩ : ∃ F, Hid (F = fdV x.c x.i0 x.i1) := ⟨_, rfl⟩
        rw [← hF.out] at FB2
        have oc := XO.out.c0
        have oi0 := XO.out.o x.i0 (by simp)
        have oi1 := XO.out.o x.i1 (by simp)
        obtain ⟨A1, hA1⟩ : ∃ A1, A1 = x.i0 * 65536 := ⟨_, rfl⟩
        obtain ⟨A2, hA2⟩ : ∃ A2, A2 = x.i1 * 16777216 := ⟨_, rfl⟩
        rw [← hA1] at FB1 FB2
        rw [← hA2] at FB2
        obtain ⟨O1, hO1⟩ : ∃ O1, O1 = x.c + A1 := ⟨_, rfl⟩
        rw [← hO1] at FB1 FB2
        have W1 : IntKind.u32.wrap (x.i0 * 65536) = A1 := by rw [hA1, IntKind.wrap_u32']; omega
        have W2 : IntKind.u32.wrap (x.i1 * 16777216) = A2 := by rw [hA2, IntKind.wrap_u32']; omega
        have V0 : IntKind.u32.wrap x.c = x.c := by rw [IntKind.wrap_u32']; omega
        have V1 : IntKind.u32.wrap x.i0 = x.i0 := by rw [IntKind.wrap_u32']; omega
        have V2 : IntKind.u32.wrap x.i1 = x.i1 := by rw [IntKind.wrap_u32']; omega
        clear hA1 hA2 hO1 oc oi0 oi1
        have NB : Hid ((Value.slice ra n rc).ownBlock ≠ some B) := RY.ne FB (by decide)
        go_wp2_with fail
        rw [← HYY.out.1]
        clear c0 c1 c2 c3 c4 c5 c6 c7 c8
        rw [← HYY.out.2]
        go_wp2_with fail
        refine RC.mono ?_
        rintro e wq ⟨rfl, EQ, KQ⟩
        have RQ := RY.same (fun g hg => KQ g (by simp [hg]))
        have FQ := (KQ B (by simp)).trans FB
        obtain ⟨g9, o9, rc9, wz, AP, EZ, OZ9, hg9, kz9⟩ := grow_run (EQ.less (A' := (Value.slice ra n rc).ownBlock.toList) (by intro a ha; simp [ha])) RQ OY.out (by have := HY.out.2; omega) F
        have FZ := kz9.at (by have := NB.out; simpa using this) FQ
        have LQ := lt_of_heap FQ
        have LZ := lt_of_heap FZ
        have f0 : wq.cell? ⟨B, 0, none⟩ = some (.int .u8 x.k) := by rw [cell_of_row wq _ 0 _ _ _ FQ]; rfl
        have f1 : wq.cell? ⟨B, 1, none⟩ = some (.int .u16 x.c) := by rw [cell_of_row wq _ 1 _ _ _ FQ]; rfl
        have f2 : wq.cell? ⟨B, 2, none⟩ = some (.int .u8 (x.b : Int)) := by rw [cell_of_row wq _ 2 _ _ _ FQ]; rfl
        have f3 : wq.cell? ⟨B, 3, none⟩ = some (.int .u8 x.i0) := by rw [cell_of_row wq _ 3 _ _ _ FQ]; rfl
        have f4 : wq.cell? ⟨B, 4, none⟩ = some (.int .u8 x.i1) := by rw [cell_of_row wq _ 4 _ _ _ FQ]; rfl
        have f5 : wq.cell? ⟨B, 5, none⟩ = some (.int .u8 x.i2) := by rw [cell_of_row wq _ 5 _ _ _ FQ]; rfl
        have f6 : wq.cell? ⟨B, 6, none⟩ = some (.int .u8 x.i3) := by rw [cell_of_row wq _ 6 _ _ _ FQ]; rfl
        have f7 : wq.cell? ⟨B, 7, none⟩ = some (.int .u8 x.i4) := by rw [cell_of_row wq _ 7 _ _ _ FQ]; rfl
        have f8 : wq.cell? ⟨B, 8, none⟩ = some (.int .i64 x.now) := by rw [cell_of_row wq _ 8 _ _ _ FQ]; rfl
        have h0 : wz.cell? ⟨B, 0, none⟩ = some (.int .u8 x.k) := by rw [cell_of_row wz _ 0 _ _ _ FZ]; rfl
        obtain ⟨n2, hn2⟩ : ∃ n2, Hid (n2 = (R ++ [F]).length) := ⟨_, rfl⟩
        have en : R.length + 1 = n2 := by rw [hn2.out]; simp
        rw [en] at AP OZ9
        have RZ : Own wz 52 1 (.slice (some ⟨g9, o9, none⟩) n2 rc9) (R ++ [F]).length ((R ++ [F]).map (Value.int .u32)) := by rw [← hn2.out]; exact Own.at_of OZ9
        have OZ : Hid (∀ g, (Value.slice (some ⟨g9, o9, none⟩) n2 rc9).ownBlock = some g → w.heap.size ≤ g) := fun g hg => by cases hg; exact hg9
        have HZ : Hid (Hs (S.raise x.c x.b x.i0 x.i1 x.i2 x.i3 x.i4) (R ++ [F])) := by have := HY.out.1.raise (i0 := x.i0) (i1 := x.i1) (i2 := x.i2) (i3 := x.i3) (i4 := x.i4) SO.out HR0.out; rw [← hF.out] at this; exact this
        have R2L : Hid ((R ++ [F]).length ≤ i + 1) := by show _ ≤ _; have := HY.out.2; simp; omega
        clear RC EY RY EQ KQ RQ FB FQ FZ OZ9 hg9 kz9 en e0 e1 e2 e3 e4 e5 e6 e7 e8
        go_wp2_with (at_builtin; refine wpList_app_by rfl _ _ _ rfl _ _ rfl rfl _ AP ?_)
        refine (EZ.call fun v hv => tick_any hv (i : Int)).mono ?_
        rintro e wt ⟨rfl, ET, KT⟩
        have HST : Hst w wt p m ((S.raise x.c x.b x.i0 x.i1 x.i2 x.i3 x.i4).tick (i : Int)) (R ++ [F]) (Value.slice (some ⟨g9, o9, none⟩) n2 rc9) := ⟨ET, RZ.same (fun g hg => KT g (by first | (simp [hg]; done) | (cases hg; simp))), OZ.out, HZ.out.tick _⟩
        clear EZ RZ OZ HZ ET KT
        go_wp2_with fail
        obtain ⟨S3, hS3⟩ : ∃ S3, S3 = (S.raise x.c x.b x.i0 x.i1 x.i2 x.i3 x.i4).tick (i : Int) := ⟨_, rfl⟩
        rw [← hS3] at HST
        clear hS3
        have HI : Calls Try.prog 20 #[.pointer (some ⟨p, 0, none⟩)] wt fun e w' => HsPost wt w' S3 e := by
          obtain ⟨v, hv, _⟩ := HST.ez
          exact history_any hv
        refine HI.mono ?_
        rintro e wh ⟨g, o, cap2, rfl, hO, hg, bh⟩
        clear HI
        have HH : Hid (Hst w wh p m S3 (R ++ [F]) (Value.slice (some ⟨g9, o9, none⟩) n2 rc9)) := HST.next bh
        have H16 : Hid (S3.hs.length = 16) := HST.ez.ok.h16
        obtain ⟨ln, hln⟩ : ∃ ln, Hid (ln = S3.ln) := ⟨_, rfl⟩
        have OH : Hid (OwnAt wh 52 1 g o ln cap2 ((S3.hs.take ln).map (Value.int .u32))) := by rw [hln.out]; exact hO
        rw [← hln.out]
        clear HST hO hg bh
        have N300 : Hid (n2 ≤ 301) := by show _ ≤ _; have := R2L.out; have := hn2.out; omega
        have LN : Hid (ln = min n2 16) := by show _ = _; rw [hln.out, HH.out.hs.ln, hn2.out]
        by_cases h16 : (16 : Int) < (n2 : Int)
        · obtain rfl : ln = 16 := by have := LN.out; omega
          go_wp2_with fail
          go_loopw [9] (fun u wv => ∃ k : Nat, k ≤ 16 ∧ u = .int .i64 (k : Int) ∧ Hid (Below wh.heap.size wh wv)) (fun u _ => 16 - (intOf u).toNat)
          case atStart => exact ⟨0, Nat.zero_le _, rfl, Below.refl _ _⟩
          case round =>
            obtain ⟨k, hk, rfl, HB⟩ := hrel
            by_cases hkl : k < 16
            · have g2 : (k : Int) < (16 : Int) := by omega
              obtain ⟨j, hj⟩ : ∃ j, Hid (j = n2 - 1 - k) := ⟨_, rfl⟩
              have hjn : j < n2 := by have := hj.out; have := LN.out; omega
              have gj : (j : Int) < (n2 : Int) := by omega
              have wA : IntKind.i64.wrap ((n2 : Int) - 1) = (n2 : Int) - 1 := w64 _ (by omega) (by have := N300.out; omega)
              have wB : IntKind.i64.wrap ((n2 : Int) - 1 - (k : Int)) = (j : Int) := by rw [w64 _ (by omega) (by have := N300.out; omega)]; have := hj.out; omega
              have OHk := OH.out.same (HB.out.block g OH.out.lt)
              have HHk := HH.out.next HB.out
              obtain ⟨z, hz⟩ : ∃ z, z = S3.hs.getD k 0 := ⟨_, rfl⟩
              have hk16 : k < S3.hs.length := by have h1 := H16.out; have h2 := LN.out; omega
              have ck := OHk.cell k (.int .u32 z) (by rw [hz]; simp [List.getElem?_take, hkl, List.getD_eq_getElem?_getD, hk16])
              have hrow : Own wr 52 1 (Value.slice (some ⟨g9, o9, none⟩) n2 rc9) n2 ((R ++ [F]).map (Value.int .u32)) := by have q := HHk.row; rw [← hn2.out] at q; exact q
              obtain ⟨g5, o5, c5', e5, hR5⟩ := hrow.pos (by omega)
              cases e5
              have hjR : j < (R ++ [F]).length := by rw [← hn2.out]; exact hjn
              have cj := hR5.cell j (.int .u32 z) (by rw [hz, HHk.hs.at_ k (by rw [← hln.out]; exact hkl), ← hn2.out, ← hj.out]; simp only [List.getElem?_map, List.getD_eq_getElem?_getD, List.getElem?_eq_getElem hjR, Option.map_some, Option.getD_some])
              have wk : IntKind.i64.wrap ((k : Int) + 1) = ((k + 1 : Nat) : Int) := by rw [IntKind.wrap_i64]; have := LN.out; omega
              clear OHk HHk hR5 hz hk16 hjR
              go_wp2_with fail
              go_quiet (fail)
              go_wp2_with fail
              exact ⟨⟨k + 1, by omega, by go_num, Below.trans HB.out ((below_drewN (Below.refl _ _) nq).mono HB.out.size)⟩, by simp [intOf]; omega⟩
            · have g2 : ¬ (k : Int) < (16 : Int) := by omega
              have FIN : Hid _ := And.intro (HH.out.next HB.out) R2L.out
              clear HB
              go_wp2_with fail
              exact ⟨⟨i + 1, by omega, by go_num, S3, (R ++ [F]), FIN.out⟩, by simp [intOf]; omega⟩
        · obtain rfl : n2 = ln := by have := LN.out; omega
          go_wp2_with fail
          go_loopw [9] (fun u wv => ∃ k : Nat, k ≤ n2 ∧ u = .int .i64 (k : Int) ∧ Hid (Below wh.heap.size wh wv)) (fun u _ => n2 - (intOf u).toNat)
          case atStart => exact ⟨0, Nat.zero_le _, rfl, Below.refl _ _⟩
          case round =>
            obtain ⟨k, hk, rfl, HB⟩ := hrel
            by_cases hkl : k < n2
            · have g2 : (k : Int) < (n2 : Int) := by omega
              obtain ⟨j, hj⟩ : ∃ j, Hid (j = n2 - 1 - k) := ⟨_, rfl⟩
              have hjn : j < n2 := by have := hj.out; have := LN.out; omega
              have gj : (j : Int) < (n2 : Int) := by omega
              have wA : IntKind.i64.wrap ((n2 : Int) - 1) = (n2 : Int) - 1 := w64 _ (by omega) (by have := N300.out; omega)
              have wB : IntKind.i64.wrap ((n2 : Int) - 1 - (k : Int)) = (j : Int) := by rw [w64 _ (by omega) (by have := N300.out; omega)]; have := hj.out; omega
              have OHk := OH.out.same (HB.out.block g OH.out.lt)
              have HHk := HH.out.next HB.out
              obtain ⟨z, hz⟩ : ∃ z, z = S3.hs.getD k 0 := ⟨_, rfl⟩
              have hk16 : k < S3.hs.length := by have h1 := H16.out; have h2 := LN.out; omega
              have ck := OHk.cell k (.int .u32 z) (by rw [hz]; simp [List.getElem?_take, hkl, List.getD_eq_getElem?_getD, hk16])
              have hrow : Own wr 52 1 (Value.slice (some ⟨g9, o9, none⟩) n2 rc9) n2 ((R ++ [F]).map (Value.int .u32)) := by have q := HHk.row; rw [← hn2.out] at q; exact q
              obtain ⟨g5, o5, c5', e5, hR5⟩ := hrow.pos (by omega)
              cases e5
              have hjR : j < (R ++ [F]).length := by rw [← hn2.out]; exact hjn
              have cj := hR5.cell j (.int .u32 z) (by rw [hz, HHk.hs.at_ k (by rw [← hln.out]; exact hkl), ← hn2.out, ← hj.out]; simp only [List.getElem?_map, List.getD_eq_getElem?_getD, List.getElem?_eq_getElem hjR, Option.map_some, Option.getD_some])
              have wk : IntKind.i64.wrap ((k : Int) + 1) = ((k + 1 : Nat) : Int) := by rw [IntKind.wrap_i64]; have := LN.out; omega
              clear OHk HHk hR5 hz hk16 hjR
              go_wp2_with fail
              go_quiet (fail)
              go_wp2_with fail
              exact ⟨⟨k + 1, by omega, by go_num, Below.trans HB.out ((below_drewN (Below.refl _ _) nq).mono HB.out.size)⟩, by simp [intOf]; omega⟩
            · have g2 : ¬ (k : Int) < (n2 : Int) := by omega
              have FIN : Hid _ := And.intro (HH.out.next HB.out) R2L.out
              clear HB
              go_wp2_with fail
              exact ⟨⟨i + 1, by omega, by go_num, S3, (R ++ [F]), FIN.out⟩, by simp [intOf]; omega⟩
      · obtain ⟨rz, hrz⟩ : ∃ rz, rz = S.raiseC x.c x.b := ⟨_, rfl⟩
        have HR0 : Hid (S.raiseC x.c x.b ≠ 0) := hr
        rw [← hrz] at RC hr
        clear hrz
        go_wp2_with fail
        rw [← HYY.out.1]
        clear c0 c1 c2 c3 c4 c5 c6 c7 c8
        rw [← HYY.out.2]
        go_wp2_with fail
        refine RC.mono ?_
        rintro e wz ⟨rfl, EQ, KQ⟩
        have RZ := RY.same (fun g hg => KQ g (by simp [hg]))
        have FQ := (KQ B (by simp)).trans FB
        have LQ := lt_of_heap FQ
        have h0 : wz.cell? ⟨B, 0, none⟩ = some (.int .u8 x.k) := by rw [cell_of_row wz _ 0 _ _ _ FQ]; rfl
        have HZ : Hid (Hs (S.raise x.c x.b x.i0 x.i1 x.i2 x.i3 x.i4) R) := HY.out.1.none HR0.out
        have EZ := EQ.less (A' := (Value.slice ra n rc).ownBlock.toList) (by intro a ha; simp [ha])
        clear RC EY RY EQ KQ FB FQ e0 e1 e2 e3 e4 e5 e6 e7 e8
        have OZ : Hid (∀ g, (Value.slice ra n rc).ownBlock = some g → w.heap.size ≤ g) := OY.out
        have R2L : Hid (R.length ≤ i + 1) := by show _ ≤ _; have := HY.out.2; omega
        have hn2 : Hid (n = R.length) := hn.out
        go_wp2_with fail
        refine (EZ.call fun v hv => tick_any hv (i : Int)).mono ?_
        rintro e wt ⟨rfl, ET, KT⟩
        have HST : Hst w wt p m ((S.raise x.c x.b x.i0 x.i1 x.i2 x.i3 x.i4).tick (i : Int)) R (Value.slice ra n rc) := ⟨ET, RZ.same (fun g hg => KT g (by first | (simp [hg]; done) | (cases hg; simp))), OZ.out, HZ.out.tick _⟩
        clear EZ RZ OZ HZ ET KT
        go_wp2_with fail
        obtain ⟨S3, hS3⟩ : ∃ S3, S3 = (S.raise x.c x.b x.i0 x.i1 x.i2 x.i3 x.i4).tick (i : Int) := ⟨_, rfl⟩
        rw [← hS3] at HST
        clear hS3
        have HI : Calls Try.prog 20 #[.pointer (some ⟨p, 0, none⟩)] wt fun e w' => HsPost wt w' S3 e := by
          obtain ⟨v, hv, _⟩ := HST.ez
          exact history_any hv
        refine HI.mono ?_
        rintro e wh ⟨g, o, cap2, rfl, hO, hg, bh⟩
        clear HI
        have HH : Hid (Hst w wh p m S3 R (Value.slice ra n rc)) := HST.next bh
        have H16 : Hid (S3.hs.length = 16) := HST.ez.ok.h16
        obtain ⟨ln, hln⟩ : ∃ ln, Hid (ln = S3.ln) := ⟨_, rfl⟩
        have OH : Hid (OwnAt wh 52 1 g o ln cap2 ((S3.hs.take ln).map (Value.int .u32))) := by rw [hln.out]; exact hO
        rw [← hln.out]
        clear HST hO hg bh
        have N300 : Hid (n ≤ 301) := by show _ ≤ _; have := R2L.out; have := hn2.out; omega
        have LN : Hid (ln = min n 16) := by show _ = _; rw [hln.out, HH.out.hs.ln, hn2.out]
        by_cases h16 : (16 : Int) < (n : Int)
        · obtain rfl : ln = 16 := by have := LN.out; omega
          go_wp2_with fail
          go_loopw [9] (fun u wv => ∃ k : Nat, k ≤ 16 ∧ u = .int .i64 (k : Int) ∧ Hid (Below wh.heap.size wh wv)) (fun u _ => 16 - (intOf u).toNat)
          case atStart => exact ⟨0, Nat.zero_le _, rfl, Below.refl _ _⟩
          case round =>
            obtain ⟨k, hk, rfl, HB⟩ := hrel
            by_cases hkl : k < 16
            · have g2 : (k : Int) < (16 : Int) := by omega
              obtain ⟨j, hj⟩ : ∃ j, Hid (j = n - 1 - k) := ⟨_, rfl⟩
              have hjn : j < n := by have := hj.out; have := LN.out; omega
              have gj : (j : Int) < (n : Int) := by omega
              have wA : IntKind.i64.wrap ((n : Int) - 1) = (n : Int) - 1 := w64 _ (by omega) (by have := N300.out; omega)
              have wB : IntKind.i64.wrap ((n : Int) - 1 - (k : Int)) = (j : Int) := by rw [w64 _ (by omega) (by have := N300.out; omega)]; have := hj.out; omega
              have OHk := OH.out.same (HB.out.block g OH.out.lt)
              have HHk := HH.out.next HB.out
              obtain ⟨z, hz⟩ : ∃ z, z = S3.hs.getD k 0 := ⟨_, rfl⟩
              have hk16 : k < S3.hs.length := by have h1 := H16.out; have h2 := LN.out; omega
              have ck := OHk.cell k (.int .u32 z) (by rw [hz]; simp [List.getElem?_take, hkl, List.getD_eq_getElem?_getD, hk16])
              have hrow : Own wr 52 1 (Value.slice ra n rc) n (R.map (Value.int .u32)) := by have q := HHk.row; rw [← hn2.out] at q; exact q
              obtain ⟨g5, o5, c5', e5, hR5⟩ := hrow.pos (by omega)
              cases e5
              have hjR : j < R.length := by rw [← hn2.out]; exact hjn
              have cj := hR5.cell j (.int .u32 z) (by rw [hz, HHk.hs.at_ k (by rw [← hln.out]; exact hkl), ← hn2.out, ← hj.out]; simp only [List.getElem?_map, List.getD_eq_getElem?_getD, List.getElem?_eq_getElem hjR, Option.map_some, Option.getD_some])
              have wk : IntKind.i64.wrap ((k : Int) + 1) = ((k + 1 : Nat) : Int) := by rw [IntKind.wrap_i64]; have := LN.out; omega
              clear OHk HHk hR5 hz hk16 hjR
              go_wp2_with fail
              go_quiet (fail)
              go_wp2_with fail
              exact ⟨⟨k + 1, by omega, by go_num, Below.trans HB.out ((below_drewN (Below.refl _ _) nq).mono HB.out.size)⟩, by simp [intOf]; omega⟩
            · have g2 : ¬ (k : Int) < (16 : Int) := by omega
              have FIN : Hid _ := And.intro (HH.out.next HB.out) R2L.out
              clear HB
              go_wp2_with fail
              exact ⟨⟨i + 1, by omega, by go_num, S3, R, FIN.out⟩, by simp [intOf]; omega⟩
        · obtain rfl : n = ln := by have := LN.out; omega
          go_wp2_with fail
          go_loopw [9] (fun u wv => ∃ k : Nat, k ≤ n ∧ u = .int .i64 (k : Int) ∧ Hid (Below wh.heap.size wh wv)) (fun u _ => n - (intOf u).toNat)
          case atStart => exact ⟨0, Nat.zero_le _, rfl, Below.refl _ _⟩
          case round =>
            obtain ⟨k, hk, rfl, HB⟩ := hrel
            by_cases hkl : k < n
            · have g2 : (k : Int) < (n : Int) := by omega
              obtain ⟨j, hj⟩ : ∃ j, Hid (j = n - 1 - k) := ⟨_, rfl⟩
              have hjn : j < n := by have := hj.out; have := LN.out; omega
              have gj : (j : Int) < (n : Int) := by omega
              have wA : IntKind.i64.wrap ((n : Int) - 1) = (n : Int) - 1 := w64 _ (by omega) (by have := N300.out; omega)
              have wB : IntKind.i64.wrap ((n : Int) - 1 - (k : Int)) = (j : Int) := by rw [w64 _ (by omega) (by have := N300.out; omega)]; have := hj.out; omega
              have OHk := OH.out.same (HB.out.block g OH.out.lt)
              have HHk := HH.out.next HB.out
              obtain ⟨z, hz⟩ : ∃ z, z = S3.hs.getD k 0 := ⟨_, rfl⟩
              have hk16 : k < S3.hs.length := by have h1 := H16.out; have h2 := LN.out; omega
              have ck := OHk.cell k (.int .u32 z) (by rw [hz]; simp [List.getElem?_take, hkl, List.getD_eq_getElem?_getD, hk16])
              have hrow : Own wr 52 1 (Value.slice ra n rc) n (R.map (Value.int .u32)) := by have q := HHk.row; rw [← hn2.out] at q; exact q
              obtain ⟨g5, o5, c5', e5, hR5⟩ := hrow.pos (by omega)
              cases e5
              have hjR : j < R.length := by rw [← hn2.out]; exact hjn
              have cj := hR5.cell j (.int .u32 z) (by rw [hz, HHk.hs.at_ k (by rw [← hln.out]; exact hkl), ← hn2.out, ← hj.out]; simp only [List.getElem?_map, List.getD_eq_getElem?_getD, List.getElem?_eq_getElem hjR, Option.map_some, Option.getD_some])
              have wk : IntKind.i64.wrap ((k : Int) + 1) = ((k + 1 : Nat) : Int) := by rw [IntKind.wrap_i64]; have := LN.out; omega
              clear OHk HHk hR5 hz hk16 hjR
              go_wp2_with fail
              go_quiet (fail)
              go_wp2_with fail
              exact ⟨⟨k + 1, by omega, by go_num, Below.trans HB.out ((below_drewN (Below.refl _ _) nq).mono HB.out.size)⟩, by simp [intOf]; omega⟩
            · have g2 : ¬ (k : Int) < (n : Int) := by omega
              have FIN : Hid _ := And.intro (HH.out.next HB.out) R2L.out
              clear HB
              go_wp2_with fail
              exact ⟨⟨i + 1, by omega, by go_num, S3, R, FIN.out⟩, by simp [intOf]; omega⟩
theorem emcyHistory_any (a : Option Addr) (len cap : Nat) (L : List Opx) (w : World) (o : IsOpx w a len L) : Calls Try.prog 6 #[.slice a len cap] w fun e w' => e = .returned (.bool true) ∧ Below w.heap.size w w' := by
  by_cases hl : 300 < len
  · exact history_many a len cap w hl
  · exact history_good a len cap L w o (by omega)
#print axioms emcyHistory_any
end Go.Proofs.Ytnbdnmfnmnboiaa
