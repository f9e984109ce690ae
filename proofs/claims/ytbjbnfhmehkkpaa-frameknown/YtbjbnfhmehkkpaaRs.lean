/-
  The walk of the document's Read.
-/
import Derived.Test.YtbjbnfhmehkkpaaRr
import Derived.Deep.RegionWith
namespace Go.Proofs.Ytbjbnfhmehkkpaa
open Go.RowKit

/-- The identifier so far. -/
def rrK (zs : List Int) : Nat → Int
  | 0 => 0
  | k + 1 => rrK zs k * 16 + vz (zb zs k)
theorem rrK_bd (zs : List Int) (k : Nat) (h : k ≤ 3) : 0 ≤ rrK zs k ∧ rrK zs k < 4096 := by
  have a := vz_bd (zb zs 0)
  have b := vz_bd (zb zs 1)
  have c := vz_bd (zb zs 2)
  have h9 : k = 0 ∨ k = 1 ∨ k = 2 ∨ k = 3 := by omega
  rcases h9 with rfl | rfl | rfl | rfl <;> simp only [rrK] <;> omega
theorem rrK_end (zs : List Int) : rrK zs 3 = rrI zs := by simp only [rrK, rrI]; omega

theorem str_inj (a b : List Int) (oa : Oct a) (ob : Oct b) (h : strOfNums a = strOfNums b) : a = b := by
  have h1 := congrArg (fun x : ByteArray => x.data.toList) h
  simp only [strOfNums_data] at h1
  have h2 : ∀ (a b : List Int), Oct a → Oct b → (a.map fun n => UInt8.ofNat n.toNat) = (b.map fun n => UInt8.ofNat n.toNat) → a = b := by
    intro a
    induction a with
    | nil => intro b _ _ h; cases b with
      | nil => rfl
      | cons y b => simp at h
    | cons x a ih =>
      intro b oa ob h
      cases b with
      | nil => simp at h
      | cons y b =>
        simp only [List.map_cons, List.cons.injEq] at h
        have hx := oa x (by simp)
        have hy := ob y (by simp)
        have e := congrArg UInt8.toNat h.1
        simp at e
        rw [ih b (fun n hn => oa n (by simp [hn])) (fun n hn => ob n (by simp [hn])) h.2, show x = y by omega]
  exact h2 a b oa ob h1
theorem toList_ne (a b : List Int) (oa : Oct a) (ob : Oct b) (h : a ≠ b) : ((strOfNums a).toList == (strOfNums b).toList) = false := by
  rw [beq_eq_false_iff_ne, Lib.toList_data, Lib.toList_data]
  intro e
  exact h (str_inj a b oa ob (ByteArray.ext (Array.toList_inj.1 e)))

/-- The three ways out of the document's Read. -/
theorem ways (zs : List Int) (ho : Oct zs) (q n d0 d1 d2 d3 d4 d5 d6 d7 : Int) (r : Bool) (h4 : 4 ≤ zs.length) (h20 : zs.length ≤ 20) (hf : rrF zs = ⟨q, n, d0, d1, d2, d3, d4, d5, d6, d7, r, 0⟩) (h0 : 0 ≤ q) (hod : Oct [d0, d1, d2, d3, d4, d5, d6, d7]) :
    (Hid (rrR zs = ⟨q, n, d0, d1, d2, d3, d4, d5, d6, d7, r, 0⟩) ∧ ∀ w, Calls Try.prog 13 #[frV q n d0 d1 d2 d3 d4 d5 d6 d7 r] w fun e w' => e = .returned (.tuple #[.string (strOfNums zs), .int .i64 0]) ∧ Below w.heap.size w w') ∨
    (Hid (rrR zs = noFr 30) ∧ ∃ T : ByteArray, (T.toList == (strOfNums zs).toList) = false ∧ ∀ w, Calls Try.prog 13 #[frV q n d0 d1 d2 d3 d4 d5 d6 d7 r] w fun e w' => e = .returned (.tuple #[.string T, .int .i64 0]) ∧ Below w.heap.size w w') ∨
    (Hid (rrR zs = noFr 30) ∧ ∀ w, Calls Try.prog 13 #[frV q n d0 d1 d2 d3 d4 d5 d6 d7 r] w fun e w' => e = .returned (.tuple #[.string ⟨#[]⟩, .int .i64 30]) ∧ Below w.heap.size w w') := by
  have hw := fun w => refWrite_any q n d0 d1 d2 d3 d4 d5 d6 d7 r w hod h0
  by_cases hr : rightB q n [d0, d1, d2, d3, d4, d5, d6, d7] r = true
  · obtain ⟨b1, b2, b3⟩ := rightB_n _ _ _ _ hr
    rw [show wrS q n [d0, d1, d2, d3, d4, d5, d6, d7] r = wrL q n [d0, d1, d2, d3, d4, d5, d6, d7] r from by simp [wrS, hr], show wrE q n [d0, d1, d2, d3, d4, d5, d6, d7] r = 0 from by simp [wrE, hr]] at hw
    by_cases he : wrL q n [d0, d1, d2, d3, d4, d5, d6, d7] r = zs
    · rw [he] at hw
      refine .inl ⟨?_, hw⟩
      show rrR zs = _
      unfold rrR
      rw [hf, if_pos ⟨h4, h20, hr, he⟩]
    · refine .inr (.inl ⟨?_, _, toList_ne _ _ (wrL_oct q n [d0, d1, d2, d3, d4, d5, d6, d7] r h0 b1 b2 b3 hod) ho he, hw⟩)
      show rrR zs = _
      unfold rrR
      rw [hf, if_neg (fun h => he h.2.2.2)]
  · rw [show wrS q n [d0, d1, d2, d3, d4, d5, d6, d7] r = [] from by simp [wrS, hr], show wrE q n [d0, d1, d2, d3, d4, d5, d6, d7] r = 30 from by simp [wrE, hr]] at hw
    refine .inr (.inr ⟨?_, hw⟩)
    show rrR zs = _
    unfold rrR
    rw [hf, if_neg (fun h => hr h.2.2.1)]

set_option maxHeartbeats 8000000 in
set_option maxRecDepth 100000 in
theorem refRead_any (zs : List Int) (w : World) (ho : Oct zs) :
    Calls Try.prog 20 #[.string (strOfNums zs)] w fun e w' => e = .returned (rrR zs).tup ∧ Below w.heap.size w w' := by
  obtain ⟨s, HS, hsz, hix⟩ := str_facts zs ho
  have HX : Hid (∀ (k : Nat) (_ : k < zs.length) (w : World), (Instr.index 9 (.string s) (.int .i64 (k : Int))).run Try.prog w = .ok (.int .u8 (zb zs k)) w) := hix
  rw [HS.out]
  clear hix
  by_cases h4 : (zs.length : Int) < 4
  · have R : rrR zs = noFr 30 := by unfold rrR; rw [if_neg (by omega)]
    rw [R]
    clear R
    go_enter Try.func20, Try.ntmps20
    go_wp2_with fail
    exact bodyPost_ret (v := (noFr 30).tup) (by simp [results, Try.results20, go_sem, noFr]) rfl ⟨rfl, Below.al (Below.refl _ _) _⟩
  by_cases h20 : (20 : Int) < (zs.length : Int)
  · have R : rrR zs = noFr 30 := by unfold rrR; rw [if_neg (by omega)]
    rw [R]
    clear R
    go_enter Try.func20, Try.ntmps20
    go_wp2_with fail
    exact bodyPost_ret (v := (noFr 30).tup) (by simp [results, Try.results20, go_sem, noFr]) rfl ⟨rfl, Below.al (Below.refl _ _) _⟩
  go_enter Try.func20, Try.ntmps20
  go_wp2_with fail
  go_loop [4, 5] (fun v i => ∃ k : Nat, k ≤ 3 ∧ i = .int .i64 (k : Int) ∧ v = .int .i64 (rrK zs k)) (fun _ i => 3 - (intOf i).toNat)
  case atStart => exact ⟨0, by decide, rfl, rfl⟩
  case round =>
    obtain ⟨k, hk, rfl, rfl⟩ := hrel
    have kb := rrK_bd zs k hk
    by_cases hlt : k < 3
    · have hlt' : (k : Int) < 3 := by omega
      have hix := HX.out k (by omega)
      have hcall := fun w => value_any (zb zs k) w
      have hvb := valZ_bd (zb zs k)
      have KS : Hid (rrK zs (k + 1) = rrK zs k * 16 + max 0 (valZ (zb zs k))) := by show _ = _; rw [max_vz]; rfl
      have hmx : 0 ≤ max 0 (valZ (zb zs k)) ∧ max 0 (valZ (zb zs k)) < 16 := by omega
      generalize zb zs k = c at *
      generalize valZ c = d at *
      generalize rrK zs k = q at *
      go_wp2_with fail
      refine (hcall _).mono ?_
      rintro e wq ⟨rfl, HW⟩
      subst HW
      go_wp2_with fail
      exact ⟨⟨k + 1, by omega, by go_num, by rw [KS.out]⟩, by simp [intOf]; omega⟩
    · obtain rfl : k = 3 := by omega
      rw [rrK_end] at kb
      rw [rrK_end]
      obtain ⟨q, HQ⟩ : ∃ q, Hid (rrI zs = q) := ⟨_, rfl⟩
      rw [HQ.out] at kb ⊢
      obtain ⟨kb0, kb1⟩ := kb
      by_cases hR : zs.length = 6 ∧ zb zs 4 = 82
      · obtain ⟨h6, h82⟩ := hR
        have x4 : ∀ w, (Instr.index 9 (.string s) (.int .i64 4)).run Try.prog w = .ok (.int .u8 82) w := fun w => by have := HX.out 4 (by omega) w; rw [h82] at this; exact this
        have x5 : ∀ w, (Instr.index 9 (.string s) (.int .i64 5)).run Try.prog w = .ok (.int .u8 (zb zs 5)) w := fun w => HX.out 5 (by omega) w
        have hcall := fun w => value_any (zb zs 5) w
        have hvb := valZ_bd (zb zs 5)
        have hways := ways zs ho q (max 0 (valZ (zb zs 5))) 0 0 0 0 0 0 0 0 true (by omega) (by omega) (by unfold rrF; rw [if_pos ⟨h6, h82⟩, HQ.out, max_vz]) kb0 oct_of0
        rw [HS.out] at hways
        have hl6 : ((zs.length : Nat) : Int) = 6 := by omega
        clear h82 h6
        generalize zb zs 5 = c at *
        generalize valZ c = d at *
        go_wp2_with fail
        refine (hcall _).mono ?_
        rintro e wq ⟨rfl, HW⟩
        subst HW
        go_wp2_with fail
        have hgf : ((w.alloc (.cells (frC 0 0 0 0 0 0 0 0 0 0 false) 26)).alloc (.cells (frC q (max 0 d) 0 0 0 0 0 0 0 0 true) 26)).heap[w.heap.size + 1]? = some (.cells (frC q (max 0 d) 0 0 0 0 0 0 0 0 true) 26 (0, 0)) := heap_alloc2_new _ _ _
        have hgz : ((w.alloc (.cells (frC 0 0 0 0 0 0 0 0 0 0 false) 26)).alloc (.cells (frC q (max 0 d) 0 0 0 0 0 0 0 0 true) 26)).heap[w.heap.size]? = some (.cells (frC 0 0 0 0 0 0 0 0 0 0 false) 26 (0, 0)) := heap_alloc2_old _ _ _
        have BW : Below w.heap.size w ((w.alloc (.cells (frC 0 0 0 0 0 0 0 0 0 0 false) 26)).alloc (.cells (frC q (max 0 d) 0 0 0 0 0 0 0 0 true) 26)) := Below.al (Below.al (Below.refl _ _) _) _
        rcases hways with ⟨RES, hwr⟩ | ⟨RES, T, hne, hwr⟩ | ⟨RES, hwr⟩
        · refine (hwr _).mono ?_
          rintro e w2 ⟨rfl, hb2⟩
          have hgz2 := (hb2.block w.heap.size (by simp; omega)).trans hgz
          have hgf2 := (hb2.block (w.heap.size + 1) (by simp)).trans hgf
          have B2 : Below w.heap.size w w2 := Below.andThen BW hb2
          have hcf := fun j => cell_of_row w2 (w.heap.size + 1) j _ _ _ hgf2
          clear hb2 hgz hgf BW hwr
          go_wp2_with (refine wpList_store_row rfl 26 _ _ rfl w.heap.size (frC q (max 0 d) 0 0 0 0 0 0 0 0 true) rfl rfl 26 _ hgz2 infoF rfl (frC_one _ _ _ _ _ _ _ _ _ _ _) ?_)
          have hc := fun j => cell_of_row (w2.setRow w.heap.size (frC q (max 0 d) 0 0 0 0 0 0 0 0 true)) w.heap.size j _ _ _ (setRow_heap _ _ _ _ _ _ hgz2)
          refine bodyPost_ret (v := FrR.tup ⟨q, (max 0 d), 0, 0, 0, 0, 0, 0, 0, 0, true, 0⟩) ?_ rfl ⟨by rw [RES.out], below_setRow B2 (Nat.le_refl _) _⟩
          simp [results, Try.results20, go_sem, hc]
        · refine (hwr _).mono ?_
          rintro e w2 ⟨rfl, hb2⟩
          have hgz2 := (hb2.block w.heap.size (by simp; omega)).trans hgz
          have hgf2 := (hb2.block (w.heap.size + 1) (by simp)).trans hgf
          have B2 : Below w.heap.size w w2 := Below.andThen BW hb2
          have hcf := fun j => cell_of_row w2 (w.heap.size + 1) j _ _ _ hgf2
          clear hb2 hgz hgf BW hwr
          go_wp2_with (refine wpList_store_row rfl 26 _ _ rfl w.heap.size (frC 0 0 0 0 0 0 0 0 0 0 false) rfl rfl 26 _ hgz2 infoF rfl (frC_one _ _ _ _ _ _ _ _ _ _ _) ?_)
          have hc := fun j => cell_of_row (w2.setRow w.heap.size (frC 0 0 0 0 0 0 0 0 0 0 false)) w.heap.size j _ _ _ (setRow_heap _ _ _ _ _ _ hgz2)
          refine bodyPost_ret (v := FrR.tup (noFr 30)) ?_ rfl ⟨by rw [RES.out], below_setRow B2 (Nat.le_refl _) _⟩
          simp [results, Try.results20, go_sem, hc, noFr]
        · refine (hwr _).mono ?_
          rintro e w2 ⟨rfl, hb2⟩
          have hgz2 := (hb2.block w.heap.size (by simp; omega)).trans hgz
          have hgf2 := (hb2.block (w.heap.size + 1) (by simp)).trans hgf
          have B2 : Below w.heap.size w w2 := Below.andThen BW hb2
          have hcf := fun j => cell_of_row w2 (w.heap.size + 1) j _ _ _ hgf2
          clear hb2 hgz hgf BW hwr
          go_wp2_with (refine wpList_store_row rfl 26 _ _ rfl w.heap.size (frC 0 0 0 0 0 0 0 0 0 0 false) rfl rfl 26 _ hgz2 infoF rfl (frC_one _ _ _ _ _ _ _ _ _ _ _) ?_)
          have hc := fun j => cell_of_row (w2.setRow w.heap.size (frC 0 0 0 0 0 0 0 0 0 0 false)) w.heap.size j _ _ _ (setRow_heap _ _ _ _ _ _ hgz2)
          refine bodyPost_ret (v := FrR.tup (noFr 30)) ?_ rfl ⟨by rw [RES.out], below_setRow B2 (Nat.le_refl _) _⟩
          simp [results, Try.results20, go_sem, hc, noFr]
      · obtain ⟨m, Hm⟩ : ∃ m : Nat, (zs.length - 4) / 2 = m := ⟨_, rfl⟩
        have hm8 : m ≤ 8 := by omega
        have hmI : ((zs.length : Nat) : Int) - 4 = 2 * (m : Int) ∨ ((zs.length : Nat) : Int) - 4 = 2 * (m : Int) + 1 := by omega
        have hmd : (((zs.length : Nat) : Int) - 4) / 2 = (m : Int) := by omega
        obtain ⟨L, HL⟩ : ∃ L, Hid (rrD zs m = L) := ⟨_, rfl⟩
        have hLl : L.length = m := by rw [← HL.out]; simp [rrD]
        have hLb : Hid (∀ k, k < m → zb L k = max 0 (valZ (zb zs (4 + 2 * k))) * 16 + max 0 (valZ (zb zs (5 + 2 * k)))) := fun k hk => by
          rw [← HL.out, max_vz, max_vz]
          simp [rrD, zb, List.getD_eq_getElem?_getD, hk]
          simp [rrB, zb, List.getD_eq_getElem?_getD]
          omega
        have hways := ways zs ho q m (zb L 0) (zb L 1) (zb L 2) (zb L 3) (zb L 4) (zb L 5) (zb L 6) (zb L 7) false (by omega) (by omega) (by unfold rrF; rw [if_neg hR, HQ.out, Hm, HL.out]) kb0 (by
          have := (rrF_ok zs).2.2
          unfold rrF at this
          rw [if_neg hR, Hm, HL.out] at this
          exact this)
        rw [HS.out] at hways
        have HE : Hid (frP q m L m = frC q m (zb L 0) (zb L 1) (zb L 2) (zb L 3) (zb L 4) (zb L 5) (zb L 6) (zb L 7) false) := frP_end q L m hLl
        have htest : ((((zs.length : Nat) : Int) == 6) = false) ∨ ((((zs.length : Nat) : Int) == 6) = true ∧ (zb zs 4 == 82) = false ∧ ∀ w, (Instr.index 9 (.string s) (.int .i64 4)).run Try.prog w = .ok (.int .u8 (zb zs 4)) w) := by
          by_cases e : zs.length = 6
          · exact .inr ⟨by simp; omega, by simp; exact fun h => hR ⟨e, h⟩, fun w => HX.out 4 (by omega) w⟩
          · exact .inl (by simp; omega)
        clear hR Hm hLl HL
        have hlen : Hid (4 + 2 * m ≤ zs.length) := by show _ ≤ _; omega
        clear hmI
        rcases htest with ht | ⟨ht, ht2, x4⟩
        all_goals
          go_wp2_with fail
          go_loopw [7] (fun i wr => ∃ k : Nat, k ≤ m ∧ i = .int .i64 (k : Int) ∧ Below w.heap.size w wr ∧ wr.heap[w.heap.size]? = some (.cells (frC 0 0 0 0 0 0 0 0 0 0 false) 26 (0, 0)) ∧ wr.heap[w.heap.size + 1]? = some (.cells (frP q m L k) 26 (0, 0))) (fun i _ => m - (intOf i).toNat)
          case atStart => exact ⟨0, Nat.zero_le _, rfl, Below.al (Below.al (Below.refl _ _) _) _, heap_alloc2_old _ _ _, heap_alloc2_new _ _ _⟩
          case round =>
            obtain ⟨k, hk, rfl, hb, hz, hf⟩ := hrel
            have hcl := (cell_of_row wr (w.heap.size + 1) 1 _ _ _ hf).trans (show (frP q m L k)[1]? = some (.int .i64 (m : Int)) from rfl)
            by_cases hlt : k < m
            · have hlt' : (k : Int) < (m : Int) := by omega
              have hk8 : (k : Int) < 8 := by omega
              obtain ⟨v0, hv0⟩ : ∃ v, (frP q m L k)[2 + k]? = some v := frP_has q m L k (by omega)
              have hc0 := (cell_of_row wr (w.heap.size + 1) (2 + k) _ _ _ hf).trans hv0
              have hfz := frozen_of_row wr (w.heap.size + 1) (2 + k) _ _ hf
              have y4 : ∀ w, (Instr.index 9 (.string s) (.int .i64 (4 + 2 * (k : Int)))).run Try.prog w = .ok (.int .u8 (zb zs (4 + 2 * k))) w := fun w => by
                have := HX.out (4 + 2 * k) (by have := hlen.out; omega) w
                rwa [show ((4 + 2 * k : Nat) : Int) = 4 + 2 * (k : Int) from by omega] at this
              have y5 : ∀ w, (Instr.index 9 (.string s) (.int .i64 (5 + 2 * (k : Int)))).run Try.prog w = .ok (.int .u8 (zb zs (5 + 2 * k))) w := fun w => by
                have := HX.out (5 + 2 * k) (by have := hlen.out; omega) w
                rwa [show ((5 + 2 * k : Nat) : Int) = 5 + 2 * (k : Int) from by omega] at this
              have BV : Hid (zb L k = max 0 (valZ (zb zs (4 + 2 * k))) * 16 + max 0 (valZ (zb zs (5 + 2 * k)))) := hLb.out k hlt
              have v4 := valZ_bd (zb zs (4 + 2 * k))
              have v5 := valZ_bd (zb zs (5 + 2 * k))
              have hcall4 := fun w => value_any (zb zs (4 + 2 * k)) w
              have hcall5 := fun w => value_any (zb zs (5 + 2 * k)) w
              have ST : Hid ((frP q m L k).setIfInBounds (2 + k) (.int .u8 (zb L k)) = frP q m L (k + 1)) := frP_step q m L k (by omega)
              rw [BV.out] at ST
              generalize zb zs (4 + 2 * k) = c4 at *
              generalize zb zs (5 + 2 * k) = c5 at *
              generalize valZ c4 = d4 at *
              generalize valZ c5 = d5 at *
              have w0 : 0 ≤ max 0 d4 ∧ max 0 d4 < 16 := by omega
              have w1 : 0 ≤ max 0 d5 ∧ max 0 d5 < 16 := by omega
              obtain ⟨w00, w01⟩ := w0
              obtain ⟨w10, w11⟩ := w1
              have q1 := wrap_small (2 * (k : Int)) (by omega) (by omega)
              have q2 := wrap_small (4 + 2 * (k : Int)) (by omega) (by omega)
              have q3 := wrap_small (5 + 2 * (k : Int)) (by omega) (by omega)
              have WB : Hid (IntKind.u8.wrap (IntKind.i64.wrap (IntKind.i64.wrap (max 0 d4 * 16) + max 0 d5)) = max 0 d4 * 16 + max 0 d5) := by
                show _ = _
                rw [wrap_small (max 0 d4 * 16) (by omega) (by omega), wrap_small (max 0 d4 * 16 + max 0 d5) (by omega) (by omega), IntKind.wrap_u8]
                omega
              have HF : Hid (wr.heap[w.heap.size + 1]? = some (.cells (frP q m L k) 26 (0, 0))) := hf
              have HZ : Hid (wr.heap[w.heap.size]? = some (.cells (frC 0 0 0 0 0 0 0 0 0 0 false) 26 (0, 0))) := hz
              clear hf hz hv0 hways
              go_wp2_with fail
              go_region_held3 (fun _ => True) (trivial) (first | ((go_at_call 29; with_reducible refine (hcall4 _).mono ?_; rintro e x ⟨rfl, HW⟩; subst HW)) | ((go_at_call 29; with_reducible refine (hcall5 _).mono ?_; rintro e x ⟨rfl, HW⟩; subst HW)))
              all_goals
                rw [WB.out]
                go_wp2_with fail
                exact ⟨⟨k + 1, by omega, by go_num, Below.drew (hb.setCell (by simp) _), (heap_setCell_other wr _ _ _ (by simp)).trans HZ.out, (heap_setCell_same wr _ _ _ _ _ HF.out).trans (by rw [ST.out])⟩, by simp [intOf]; omega⟩
            · obtain rfl : k = m := by omega
              rw [HE.out] at hf
              have hgz := hz
              have hgf := hf
              have BW := hb
              have hcf0 := fun j => cell_of_row wr (w.heap.size + 1) j _ _ _ hf
              clear hz hf hb hcl
              go_wp2_with fail
              rcases hways with ⟨RES, hwr⟩ | ⟨RES, T, hne, hwr⟩ | ⟨RES, hwr⟩
              · refine (hwr _).mono ?_
                rintro e w2 ⟨rfl, hb2⟩
                have hgz2 := (hb2.block w.heap.size (Array.getElem?_eq_some_iff.1 hgz).1).trans hgz
                have hgf2 := (hb2.block (w.heap.size + 1) (Array.getElem?_eq_some_iff.1 hgf).1).trans hgf
                have B2 : Below w.heap.size w w2 := Below.andThen BW hb2
                have hcf := fun j => cell_of_row w2 (w.heap.size + 1) j _ _ _ hgf2
                clear hb2 hgz hgf BW hwr
                go_wp2_with (refine wpList_store_row rfl 26 _ _ rfl w.heap.size (frC q (k : Int) (zb L 0) (zb L 1) (zb L 2) (zb L 3) (zb L 4) (zb L 5) (zb L 6) (zb L 7) false) rfl rfl 26 _ hgz2 infoF rfl (frC_one _ _ _ _ _ _ _ _ _ _ _) ?_)
                have hc := fun j => cell_of_row (w2.setRow w.heap.size (frC q (k : Int) (zb L 0) (zb L 1) (zb L 2) (zb L 3) (zb L 4) (zb L 5) (zb L 6) (zb L 7) false)) w.heap.size j _ _ _ (setRow_heap _ _ _ _ _ _ hgz2)
                refine bodyPost_ret (v := FrR.tup ⟨q, (k : Int), (zb L 0), (zb L 1), (zb L 2), (zb L 3), (zb L 4), (zb L 5), (zb L 6), (zb L 7), false, 0⟩) ?_ rfl ⟨by rw [RES.out], below_setRow B2 (Nat.le_refl _) _⟩
                simp [results, Try.results20, go_sem, hc]
              · refine (hwr _).mono ?_
                rintro e w2 ⟨rfl, hb2⟩
                have hgz2 := (hb2.block w.heap.size (Array.getElem?_eq_some_iff.1 hgz).1).trans hgz
                have hgf2 := (hb2.block (w.heap.size + 1) (Array.getElem?_eq_some_iff.1 hgf).1).trans hgf
                have B2 : Below w.heap.size w w2 := Below.andThen BW hb2
                have hcf := fun j => cell_of_row w2 (w.heap.size + 1) j _ _ _ hgf2
                clear hb2 hgz hgf BW hwr
                go_wp2_with (refine wpList_store_row rfl 26 _ _ rfl w.heap.size (frC 0 0 0 0 0 0 0 0 0 0 false) rfl rfl 26 _ hgz2 infoF rfl (frC_one _ _ _ _ _ _ _ _ _ _ _) ?_)
                have hc := fun j => cell_of_row (w2.setRow w.heap.size (frC 0 0 0 0 0 0 0 0 0 0 false)) w.heap.size j _ _ _ (setRow_heap _ _ _ _ _ _ hgz2)
                refine bodyPost_ret (v := FrR.tup (noFr 30)) ?_ rfl ⟨by rw [RES.out], below_setRow B2 (Nat.le_refl _) _⟩
                simp [results, Try.results20, go_sem, hc, noFr]
              · refine (hwr _).mono ?_
                rintro e w2 ⟨rfl, hb2⟩
                have hgz2 := (hb2.block w.heap.size (Array.getElem?_eq_some_iff.1 hgz).1).trans hgz
                have hgf2 := (hb2.block (w.heap.size + 1) (Array.getElem?_eq_some_iff.1 hgf).1).trans hgf
                have B2 : Below w.heap.size w w2 := Below.andThen BW hb2
                have hcf := fun j => cell_of_row w2 (w.heap.size + 1) j _ _ _ hgf2
                clear hb2 hgz hgf BW hwr
                go_wp2_with (refine wpList_store_row rfl 26 _ _ rfl w.heap.size (frC 0 0 0 0 0 0 0 0 0 0 false) rfl rfl 26 _ hgz2 infoF rfl (frC_one _ _ _ _ _ _ _ _ _ _ _) ?_)
                have hc := fun j => cell_of_row (w2.setRow w.heap.size (frC 0 0 0 0 0 0 0 0 0 0 false)) w.heap.size j _ _ _ (setRow_heap _ _ _ _ _ _ hgz2)
                refine bodyPost_ret (v := FrR.tup (noFr 30)) ?_ rfl ⟨by rw [RES.out], below_setRow B2 (Nat.le_refl _) _⟩
                simp [results, Try.results20, go_sem, hc, noFr]
#print axioms refRead_any
end Go.Proofs.Ytbjbnfhmehkkpaa
