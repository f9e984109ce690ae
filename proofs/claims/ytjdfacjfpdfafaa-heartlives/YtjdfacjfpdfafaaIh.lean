/-
  HeartLives of any node, any time that it may be silent, any start and any row of steps.
-/
import Derived.Test.YtjdfacjfpdfafaaIe
import Derived.Test.YtjdfacjfpdfafaaIc
namespace Go.Proofs.Ytjdfacjfpdfafaa
open Go.RowKit

set_option linter.unusedSimpArgs false in
set_option maxHeartbeats 4000000 in
set_option maxRecDepth 100000 in
theorem lives_s1 (a W st : Int) (ad : Option Addr) (len cap : Nat) (w : World) (h1 : W < 1) : Calls Try.prog 5 #[.int .u8 a, .int .i64 W, .int .i64 st, .slice ad len cap] w fun e w' => e = .returned (.bool true) ∧ Below w.heap.size w w' := by
  have NW := fun W => newW_any W
  go_enter Try.func5, Try.ntmps5
  go_wp2_with fail
  refine (NW _).mono ?_
  rintro e w1 ⟨rfl, iw, b1⟩
  go_wp2_with fail
  refine (works_any _).mono ?_
  rintro e w' ⟨rfl, hb⟩
  go_wp2_with fail
  go_ret
  exact ⟨rfl, Below.andThen b1 hb⟩
set_option linter.unusedSimpArgs false in
set_option maxHeartbeats 4000000 in
set_option maxRecDepth 100000 in
theorem lives_s2 (a W st : Int) (ad : Option Addr) (len cap : Nat) (w : World) (h1 : ¬ W < 1) (h2 : st < 0) : Calls Try.prog 5 #[.int .u8 a, .int .i64 W, .int .i64 st, .slice ad len cap] w fun e w' => e = .returned (.bool true) ∧ Below w.heap.size w w' := by
  have NW := fun W => newW_any W
  go_enter Try.func5, Try.ntmps5
  go_wp2_with fail
  refine (NW _).mono ?_
  rintro e w1 ⟨rfl, iw, b1⟩
  go_wp2_with fail
  refine (works_any _).mono ?_
  rintro e w' ⟨rfl, hb⟩
  go_wp2_with fail
  go_ret
  exact ⟨rfl, Below.andThen b1 hb⟩
set_option linter.unusedSimpArgs false in
set_option maxHeartbeats 4000000 in
set_option maxRecDepth 100000 in
theorem lives_s3 (a W st : Int) (ad : Option Addr) (len cap : Nat) (w : World) (h1 : ¬ W < 1) (h2 : ¬ st < 0) (h3 : 274877906944 < st) : Calls Try.prog 5 #[.int .u8 a, .int .i64 W, .int .i64 st, .slice ad len cap] w fun e w' => e = .returned (.bool true) ∧ Below w.heap.size w w' := by
  have NW := fun W => newW_any W
  go_enter Try.func5, Try.ntmps5
  go_wp2_with fail
  refine (NW _).mono ?_
  rintro e w1 ⟨rfl, iw, b1⟩
  go_wp2_with fail
  refine (works_any _).mono ?_
  rintro e w' ⟨rfl, hb⟩
  go_wp2_with fail
  go_ret
  exact ⟨rfl, Below.andThen b1 hb⟩
set_option linter.unusedSimpArgs false in
set_option maxHeartbeats 4000000 in
set_option maxRecDepth 100000 in
theorem lives_s4 (a W st : Int) (ad : Option Addr) (len cap : Nat) (w : World) (h1 : ¬ W < 1) (h2 : ¬ st < 0) (h3 : ¬ 274877906944 < st) (h4 : 1073741824 < W) : Calls Try.prog 5 #[.int .u8 a, .int .i64 W, .int .i64 st, .slice ad len cap] w fun e w' => e = .returned (.bool true) ∧ Below w.heap.size w w' := by
  have NW := fun W => newW_any W
  go_enter Try.func5, Try.ntmps5
  go_wp2_with fail
  refine (NW _).mono ?_
  rintro e w1 ⟨rfl, iw, b1⟩
  go_wp2_with fail
  refine (works_any _).mono ?_
  rintro e w' ⟨rfl, hb⟩
  go_wp2_with fail
  go_ret
  exact ⟨rfl, Below.andThen b1 hb⟩
set_option linter.unusedSimpArgs false in
set_option maxHeartbeats 4000000 in
set_option maxRecDepth 100000 in
theorem lives_s5 (a W st : Int) (ad : Option Addr) (len cap : Nat) (w : World) (h1 : ¬ W < 1) (h2 : ¬ st < 0) (h3 : ¬ 274877906944 < st) (h4 : ¬ 1073741824 < W) (h : 100 < len) : Calls Try.prog 5 #[.int .u8 a, .int .i64 W, .int .i64 st, .slice ad len cap] w fun e w' => e = .returned (.bool true) ∧ Below w.heap.size w w' := by
  have NW := fun W => newW_any W
  have h5 : (100 : Int) < (len : Int) := by omega
  clear h
  go_enter Try.func5, Try.ntmps5
  go_wp2_with fail
  refine (NW _).mono ?_
  rintro e w1 ⟨rfl, iw, b1⟩
  go_wp2_with fail
  refine (works_any _).mono ?_
  rintro e w' ⟨rfl, hb⟩
  go_wp2_with fail
  go_ret
  exact ⟨rfl, Below.andThen b1 hb⟩
set_option linter.unusedSimpArgs false in
set_option maxHeartbeats 4000000 in
set_option maxRecDepth 100000 in
theorem lives_s6 (a W st : Int) (ad : Option Addr) (len cap : Nat) (w : World) (h1 : ¬ W < 1) (h2 : ¬ st < 0) (h3 : ¬ 274877906944 < st) (h4 : ¬ 1073741824 < W) (h : ¬ 100 < len) (ha : ndB a = false) : Calls Try.prog 5 #[.int .u8 a, .int .i64 W, .int .i64 st, .slice ad len cap] w fun e w' => e = .returned (.bool true) ∧ Below w.heap.size w w' := by
  have NW := fun W => newW_any W
  have SB := fun p w => set_bad p a W (.inl ha) w
  have h5 : ¬ (100 : Int) < (len : Int) := by omega
  clear h ha
  go_enter Try.func5, Try.ntmps5
  go_wp2_with fail
  refine (NW _).mono ?_
  rintro e w1 ⟨rfl, iw, b1⟩
  go_wp2_with fail
  refine (SB _ _).mono ?_
  rintro e w2 ⟨rfl, rfl⟩
  go_wp2_with fail
  refine (works_any _).mono ?_
  rintro e w' ⟨rfl, hb⟩
  go_wp2_with fail
  go_ret
  exact ⟨rfl, Below.andThen b1 hb⟩
set_option linter.unusedSimpArgs false in
set_option maxHeartbeats 40000000 in
set_option maxRecDepth 100000 in
theorem lives_ok (k : Nat) (W st : Int) (ad : Option Addr) (len cap : Nat) (L : List Int) (w : World) (o : IsTx w ad len L) (h1 : ¬ W < 1) (h2 : ¬ st < 0) (h3 : ¬ 274877906944 < st) (h4 : ¬ 1073741824 < W) (h : ¬ 100 < len) (ha : ndB (k : Int) = true) : Calls Try.prog 5 #[.int .u8 (k : Int), .int .i64 W, .int .i64 st, .slice ad len cap] w fun e w' => e = .returned (.bool true) ∧ Below w.heap.size w w' := by
  have NW := fun W => newW_any W
  have h5 : ¬ (100 : Int) < (len : Int) := by omega
  have hW : tmB W = true := tmB_t (by omega) (by omega)
  have BE : Hid (∀ w, Calls Try.prog 27 #[.int .u8 (k : Int), .int .u8 5] w fun e w' => e = .returned (beV (k : Int) 5) ∧ Below w.heap.size w w') := fun w => rbeat_any (k : Int) 5 (by have := ndB_of ha; omega) w
  have HA : Hid (ndB (k : Int) = true ∧ tmB W = true ∧ k < 128) := ⟨ha, hW, by have := ndB_of ha; omega⟩
  have HL : Hid (len ≤ 100 ∧ 1 ≤ W ∧ W ≤ 1073741824 ∧ 0 ≤ st ∧ st ≤ 274877906944) := ⟨by omega, by omega, by omega, by omega, by omega⟩
  have O : Hid (IsTx w ad len L) := o
  clear ha hW h o
  go_enter Try.func5, Try.ntmps5
  go_wp2_with fail
  refine (NW _).mono ?_
  rintro e w1 ⟨rfl, iw, b1⟩
  obtain ⟨p, hp⟩ : ∃ p, Hid (p = w.heap.size) := ⟨_, rfl⟩
  rw [← hp.out] at iw ⊢
  have LP : Hid (w.heap.size ≤ p ∧ p ≤ w1.heap.size) := by show _ ∧ _; have := b1.size; have := hp.out; omega
  clear hp NW
  have SE := set_any iw LP.out.2 (k : Int) W (by omega)
  rw [setL_ok (setC_one HA.out.1 HA.out.2.1 (by have := HL.out; omega)), setC_one HA.out.1 HA.out.2.1 (by have := HL.out; omega), show (k : Int).toNat = k from by omega] at SE
  have SEH : Hid _ := SE
  clear SE iw
  go_wp2_with fail
  refine Calls.mono SEH.out ?_
  rintro e w2 ⟨rfl, ⟨P2, iw2⟩, k2⟩
  have iw2 : IsW w2 p p P2 (one k (fresh W)) := iw2
  have B2 : Below w.heap.size w w2 := Kt.up b1 k2 LP.out.1 b1.size
  have L2 : p ≤ w2.heap.size := by have := LP.out; have := k2.size; omega
  clear SEH b1 k2
  go_wp2_with fail
  clear h1 h2 h3 h4
  refine (BE.out _).mono ?_
  rintro e w3 ⟨rfl, b3⟩
  have B3 : Below w.heap.size w w3 := Below.andThen B2 b3
  have iw3 := iw2.next b3
  have L3 : p ≤ w3.heap.size := by have := b3.size; omega
  clear b3 B2 iw2 L2
  have HE := hear_one iw3 HA.out.1 (by have := HL.out; show 0 < W; omega) st (tmB_t HL.out.2.2.2.1 (by have := HL.out; omega))
  rw [show newsK (fresh W) 5 = 1 from rfl, if_neg (by decide)] at HE
  simp only [eoV] at HE
  go_wp2_with fail
  refine HE.mono ?_
  rintro e w4 ⟨rfl, ⟨P4, iw4⟩, k4⟩
  have B4 : Below w.heap.size w w4 := Kt.up B3 k4 LP.out.1 B3.size
  have L4 : p ≤ w4.heap.size := by have := k4.size; omega
  clear HE k4 B3 iw3 L3
  go_wp2_with fail
  have B5 := Below.al B4 (.cells (evA (k : Int) 1 5) 54)
  have iw5 := iw4.next (Below.al (Below.refl _ _) (.cells (evA (k : Int) 1 5) 54))
  have L5 : p ≤ (w4.alloc (.cells (evA (k : Int) 1 5) 54)).heap.size := by simp; omega
  have IW5 : Hid (IsW _ p p P4 (one k ⟨W, true, false, 5, st⟩)) := iw5
  clear iw4 B4 L4 iw5
  go_loopw [10, 13] (fun nv iv wr => ∃ (i : Nat) (now : Int), i ≤ len ∧ iv = .int .i64 (i : Int) ∧ nv = .int .i64 now ∧ (st ≤ now ∧ now ≤ st + (i : Int) * 1073741824) ∧ Below w.heap.size w wr ∧ p ≤ wr.heap.size ∧ ∃ P, IsW wr p p P (one k ⟨W, true, false, 5, now⟩)) (fun _ iv _ => len - (intOf iv).toNat)
  case atStart => exact ⟨0, st, Nat.zero_le _, rfl, rfl, ⟨Int.le_refl _, by omega⟩, B5, L5, _, IW5.out⟩
  case round =>
    clear IW5 B5 L5
    obtain ⟨i, now, hil, rfl, rfl, hnow, B, LL, Pi, IWi⟩ := hrel
    have IW : Hid (IsW wr p p Pi (one k ⟨W, true, false, 5, now⟩)) := IWi
    have HN : Hid ((st ≤ now ∧ now ≤ st + (i : Int) * 1073741824) ∧ 0 ≤ now ∧ now ≤ 382252089344) := by show _ ∧ _; have := HL.out; omega
    clear IWi hnow
    by_cases hlt : i < len
    · have g1 : (i : Int) < (len : Int) := by omega
      obtain ⟨b, off, e2, hc⟩ := (O.out.next B).at_ (by omega)
      have c0 := hc i hlt
      subst e2
      obtain ⟨v, hv⟩ : ∃ v, v = L.getD i 0 := ⟨_, rfl⟩
      rw [← hv] at c0
      have lbr := block_lt_of_cell c0
      clear hc hv
      have hW0 : ¬ W = 0 := by have := HL.out; omega
      have hWm : ¬ W = -1 := by have := HL.out; omega
      have r1 : -W < v.tmod W ∧ v.tmod W < W := ⟨Int.lt_tmod_of_pos _ (by have := HL.out; omega), Int.tmod_lt_of_pos _ (by have := HL.out; omega)⟩
      obtain ⟨r0, hr0⟩ : ∃ r0, Hid (v.tmod W = r0) := ⟨_, rfl⟩
      rw [hr0.out] at r1
      have wA : IntKind.i64.wrap (r0 + W) = r0 + W := w64 _ (by have := HL.out; omega) (by have := HL.out; omega)
      obtain ⟨by_, hby⟩ : ∃ by_, Hid ((r0 + W).tmod W = by_) := ⟨_, rfl⟩
      have hme := Int.tmod_eq_emod_of_nonneg (b := W) (a := r0 + W) (by omega)
      rw [hby.out] at hme
      have RB : Hid (0 ≤ by_ ∧ by_ < W) := ⟨by rw [hme]; exact Int.emod_nonneg _ hW0, by rw [hme]; exact Int.emod_lt_of_pos _ (by have := HL.out; omega)⟩
      have T0 := hr0.out
      have T1 := hby.out
      clear r1 hr0 hby hme
      go_wp2_with fail
      clear T0 T1 wA c0 lbr
      obtain ⟨wo, rfl⟩ : ∃ z, z = wr := ⟨_, rfl⟩
      go_loopw [15] (fun jv wr => ∃ j : Nat, j ≤ 20 ∧ jv = .int .i64 (j : Int) ∧ Below w.heap.size w wr ∧ p ≤ wr.heap.size ∧ ∃ P, IsW wr p p P (one k ⟨W, true, false, 5, now⟩)) (fun jv _ => 20 - (intOf jv).toNat)
      case atStart => exact ⟨0, Nat.zero_le _, rfl, B, LL, _, IW.out⟩
      case round =>
        obtain ⟨j, hj, rfl, Bj, Lj, Pj, IWj⟩ := hrel
        by_cases hj20 : j < 20
        · have gj : (j : Int) < 20 := by omega
          have wk : IntKind.i64.wrap ((j : Int) + 1) = ((j + 1 : Nat) : Int) := by rw [IntKind.wrap_i64]; omega
          have m0 : 0 ≤ by_ * (j : Int) := Int.mul_nonneg RB.out.1 (by omega)
          have m1 : by_ * (j : Int) ≤ by_ * 19 := Int.mul_le_mul_of_nonneg_left (by omega) RB.out.1
          obtain ⟨m, hm⟩ : ∃ m, Hid (by_ * (j : Int) = m) := ⟨_, rfl⟩
          rw [hm.out] at m0 m1
          have RB1 := RB.out
          have HL1 := HL.out
          have HN1 := HN.out
          have wm : IntKind.i64.wrap (by_ * (j : Int)) = m := by rw [hm.out]; exact w64 _ (by omega) (by omega)
          obtain ⟨q, hq⟩ : ∃ q, Hid (m.tdiv 20 = q) := ⟨_, rfl⟩
          have q0 : 0 ≤ q ∧ q < W := by rw [← hq.out, Int.tdiv_eq_ediv_of_nonneg m0]; omega
          have wq : IntKind.i64.wrap (now + q) = now + q := w64 _ (by omega) (by omega)
          have T2 := hq.out
          have wz : IntKind.i64.wrap q = q := w64 _ (by omega) (by omega)
          have TI := tick_none IWj HA.out.2.2 (now + q) (tmB_t (by omega) (by omega)) (by simp [goneB, Nd.on]; omega)
          have TIH : Hid _ := TI
          clear hm hq q0 RB1 HL1 HN1 TI m0 m1 IWj
          go_wp2_with fail
          refine Calls.mono TIH.out ?_
          rintro e w6 ⟨a6, c6, rfl, iw6, k6⟩
          have B6 : Below w.heap.size w w6 := Kt.up Bj k6 LP.out.1 Bj.size
          have L6 : p ≤ w6.heap.size := by have := k6.size; omega
          clear TIH k6 Bj Lj
          go_wp2_with fail
          exact ⟨⟨j + 1, by omega, by go_num, B6, L6, _, iw6⟩, by simp [intOf]; omega⟩
        · have gj : ¬ (j : Int) < 20 := by omega
          have wn : IntKind.i64.wrap (now + by_) = now + by_ := by have := HN.out; have := RB.out; have := HL.out; exact w64 _ (by omega) (by omega)
          have iw7 : Hid (IsW wr p p Pj (one k ⟨W, true, false, 5, now⟩)) := IWj
          clear IWj hj20
          go_wp2_with fail
          refine (BE.out _).mono ?_
          rintro e w7 ⟨rfl, b7⟩
          have B7 : Below w.heap.size w w7 := Below.andThen Bj b7
          have iw8 := iw7.out.next b7
          have L7 : p ≤ w7.heap.size := by have := b7.size; omega
          clear b7 Bj iw7 Lj
          have HE := hear_one iw8 HA.out.1 (by have := HL.out; show 0 < W; omega) (now + by_) (tmB_t (by have := HN.out; have := RB.out; omega) (by have := HN.out; have := RB.out; have := HL.out; omega))
          rw [show newsK (Nd.mk W true false 5 now) 5 = 0 from rfl, if_pos rfl] at HE
          simp only [eoV] at HE
          have HEH : Hid _ := HE
          clear HE
          go_wp2_with fail
          refine Calls.mono HEH.out ?_
          rintro e w8 ⟨rfl, ⟨P8, iw9⟩, k8⟩
          have B8 : Below w.heap.size w w8 := Kt.up B7 k8 LP.out.1 B7.size
          have L8 : p ≤ w8.heap.size := by have := k8.size; omega
          clear HEH k8 B7 iw8 L7
          have TI := tick_none (iw9.next (Below.al (Below.refl _ _) (.cells (evA 0 0 0) 54))) HA.out.2.2 (now + by_) (tmB_t (by have := HN.out; have := RB.out; omega) (by have := HN.out; have := RB.out; have := HL.out; omega)) (by show goneB (Nd.mk W true false 5 (now + by_)) (now + by_) = false; have := HL.out; simp [goneB, Nd.on]; omega)
          have TIH : Hid _ := TI
          clear TI iw9
          go_wp2_with fail
          refine Calls.mono TIH.out ?_
          rintro e w9 ⟨a9, c9, rfl, iw9, k9⟩
          have B9 : Below w.heap.size w w9 := Kt.up (Below.al B8 (.cells (evA 0 0 0) 54)) k9 LP.out.1 (Below.al B8 (.cells (evA 0 0 0) 54)).size
          have L9 : p ≤ w9.heap.size := by have := k9.size; simp at this; omega
          clear TIH k9 B8 L8
          have IW9 : Hid (IsW w9 p p P8 (one k ⟨W, true, false, 5, now + by_⟩)) := iw9
          clear iw9
          have BND : Hid (st ≤ now + by_ ∧ now + by_ ≤ st + ((i + 1 : Nat) : Int) * 1073741824) := by show _ ∧ _; have := HN.out; have := RB.out; have := HL.out; omega
          go_wp2_with fail
          exact ⟨⟨i + 1, now + by_, by omega, by go_num, rfl, BND.out, B9, L9, _, IW9.out⟩, by simp [intOf]; omega⟩
    · have g1 : ¬ (i : Int) < (len : Int) := by omega
      have HN1 := HN.out
      have HL1 := HL.out
      have wD : IntKind.i64.wrap (now + W) = now + W := w64 _ (by omega) (by omega)
      have wE : IntKind.i64.wrap (now + W - 1) = now + W - 1 := w64 _ (by omega) (by omega)
      have wF : IntKind.i64.wrap (2 * W) = 2 * W := w64 _ (by omega) (by omega)
      have wG : IntKind.i64.wrap (now + 2 * W) = now + 2 * W := w64 _ (by omega) (by omega)
      have wdB : Hid (tmB (now + W - 1) = true ∧ tmB (now + W) = true ∧ tmB (now + 2 * W) = true) := ⟨tmB_t (by omega) (by omega), tmB_t (by omega) (by omega), tmB_t (by omega) (by omega)⟩
      have DU := wdue_any IW.out
      rw [dueK_one HA.out.2.2 _ ⟨by show 0 < W; omega, rfl⟩ _ (Nat.le_refl _), if_pos HA.out.2.2] at DU
      simp only [dueV, Option.getD, Option.isSome] at DU
      have DUH : Hid _ := DU
      have G1 : Hid (goneB (Nd.mk W true false 5 now) (now + W - 1) = false) := by show _ = _; simp [goneB, Nd.on]; omega
      have G2 : Hid (goneB (Nd.mk W true false 5 now) (now + W) = true) := by show _ = _; simp [goneB, Nd.on]; omega
      clear DU HN1 HL1 hlt
      go_wp2_with fail
      refine Calls.mono DUH.out ?_
      rintro e wa ⟨rfl, ba⟩
      have Ba : Below w.heap.size w wa := Below.andThen B ba
      have La : p ≤ wa.heap.size := by have := ba.size; omega
      have TI := tick_none (IW.out.next ba) HA.out.2.2 (now + W - 1) wdB.out.1 G1.out
      have TIH : Hid _ := TI
      clear TI ba DUH B LL
      go_wp2_with fail
      refine Calls.mono TIH.out ?_
      rintro e wb ⟨a2, c2, rfl, iwb, kb⟩
      have Bb : Below w.heap.size w wb := Kt.up Ba kb LP.out.1 Ba.size
      have Lb : p ≤ wb.heap.size := by have := kb.size; omega
      have TI := tick_gone iwb HA.out.2.2 (now + W) wdB.out.2.1 G2.out
      have TIH2 : Hid _ := TI
      clear TI kb TIH Ba La iwb IW
      go_wp2_with fail
      refine Calls.mono TIH2.out ?_
      rintro e wc ⟨g, o, cc, rfl, ⟨e0, e1, e2⟩, iwc, kc⟩
      have Bc : Below w.heap.size w wc := Kt.up Bb kc LP.out.1 Bb.size
      have Lc : p ≤ wc.heap.size := by have := kc.size; omega
      have SA := state_any iwc (k : Int) (by omega)
      rw [stV_one HA.out.1, if_neg (by simp [Nd.on])] at SA
      have SAH : Hid _ := SA
      have TI := tick_none iwc HA.out.2.2 (now + 2 * W) wdB.out.2.2 (by simp [goneB, Nd.on])
      have TIH3 : Hid _ := TI
      clear TI SA kc TIH2 Bb Lb iwc
      go_wp2_with fail
      refine Calls.mono SAH.out ?_
      rintro e wd ⟨rfl, rfl⟩
      clear SAH
      have lg := block_lt_of_cell e0
      go_wp2_with fail
      refine Calls.mono TIH3.out ?_
      rintro e we ⟨a5, c5, rfl, iwe, ke⟩
      have Be : Below w.heap.size w we := Kt.up Bc ke LP.out.1 Bc.size
      clear TIH3 ke iwe Bc Lc e0 e1 e2 lg
      go_wp2_with fail
      refine (works_any _).mono ?_
      rintro e w' ⟨rfl, hb⟩
      go_wp2_with fail
      go_ret
      exact ⟨rfl, Below.andThen Be hb⟩

theorem heartLives_any (a : Int) (h0 : 0 ≤ a ∧ a < 256) (W st : Int) (ad : Option Addr) (len cap : Nat) (L : List Int) (w : World) (o : IsTx w ad len L) : Calls Try.prog 5 #[.int .u8 a, .int .i64 W, .int .i64 st, .slice ad len cap] w fun e w' => e = .returned (.bool true) ∧ Below w.heap.size w w' := by
  by_cases h1 : W < 1
  · exact lives_s1 a W st ad len cap w h1
  by_cases h2 : st < 0
  · exact lives_s2 a W st ad len cap w h1 h2
  by_cases h3 : 274877906944 < st
  · exact lives_s3 a W st ad len cap w h1 h2 h3
  by_cases h4 : 1073741824 < W
  · exact lives_s4 a W st ad len cap w h1 h2 h3 h4
  by_cases h5 : 100 < len
  · exact lives_s5 a W st ad len cap w h1 h2 h3 h4 h5
  cases ha : ndB a with
  | false => exact lives_s6 a W st ad len cap w h1 h2 h3 h4 h5 ha
  | true =>
    obtain ⟨k, rfl⟩ : ∃ k : Nat, a = k := ⟨a.toNat, by omega⟩
    exact lives_ok k W st ad len cap L w o h1 h2 h3 h4 h5 ha
#print axioms heartLives_any
end Go.Proofs.Ytjdfacjfpdfafaa
