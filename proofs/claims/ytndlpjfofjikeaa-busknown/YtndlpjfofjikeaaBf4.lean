/-
  The walk of the sort's partition.
-/
import Derived.Test.YtndlpjfofjikeaaBe4
namespace Go.Proofs.Ytndlpjfofjikeaa
open Go.RowKit

abbrev plp (a i j : Nat) (d : Array Sn) : Nat × Array Sn := Go.Sort.partLoop aheadB a i j d
theorem plp_stop (a i j I J : Nat) (d : Array Sn) (hI : I = sUp (fun x => aheadB x d[a]!) d j i) (hJ : J = sDn (fun x => !aheadB x d[a]!) d I j) (h : J < I) : plp a i j d = (J, d) := by
  subst hJ hI
  unfold plp Go.Sort.partLoop
  dsimp only
  rw [if_pos h]
theorem plp_go (a i j I J : Nat) (d : Array Sn) (hI : I = sUp (fun x => aheadB x d[a]!) d j i) (hJ : J = sDn (fun x => !aheadB x d[a]!) d I j) (h : ¬ J < I) (hg : (J - 1) + 1 - (I + 1) < j + 1 - i) : plp a i j d = plp a (I + 1) (J - 1) (Go.Sort.swp d I J) := by
  subst hJ hI
  conv => lhs; unfold plp Go.Sort.partLoop
  dsimp only
  rw [if_neg h, dif_pos hg]
theorem part_stop (d : Array Sn) (a b pv i j I J : Nat) (e : Array Sn) (he : e = Go.Sort.swp d a pv) (hi : i = a + 1) (hj : j = b - 1) (hI : I = sUp (fun x => aheadB x e[a]!) e j i) (hJ : J = sDn (fun x => !aheadB x e[a]!) e I j) (h : J < I) : Go.Sort.partition aheadB d a b pv = (J, true, Go.Sort.swp e J a) := by
  subst hJ hI hi hj he
  unfold Go.Sort.partition
  dsimp only
  rw [if_pos h]
theorem part_go (d : Array Sn) (a b pv i j I J : Nat) (e : Array Sn) (he : e = Go.Sort.swp d a pv) (hi : i = a + 1) (hj : j = b - 1) (hI : I = sUp (fun x => aheadB x e[a]!) e j i) (hJ : J = sDn (fun x => !aheadB x e[a]!) e I j) (h : ¬ J < I) : Go.Sort.partition aheadB d a b pv = ((plp a (I + 1) (J - 1) (Go.Sort.swp e I J)).1, false, Go.Sort.swp (plp a (I + 1) (J - 1) (Go.Sort.swp e I J)).2 (plp a (I + 1) (J - 1) (Go.Sort.swp e I J)).1 a) := by
  subst hJ hI hi hj he
  unfold Go.Sort.partition
  dsimp only
  rw [if_neg h]

set_option linter.unusedSimpArgs false in
set_option maxHeartbeats 4000000 in
set_option maxRecDepth 100000 in
theorem partition_any {w : World} {base g N cap : Nat} {d : Array Sn} (h : IsA w base g N cap d) (a b pv : Nat) (hap : a ≤ pv) (hpb : pv < b) (hb : b ≤ N) (hN : N ≤ 1000000) :
    Calls Try.prog 56 #[.iface 59 (.agg #[.slice (some ⟨g, 0, none⟩) N cap]), .int .i64 (a : Int), .int .i64 (b : Int), .int .i64 (pv : Int)] w fun e w' => e = .returned (.tuple #[.int .i64 ((Go.Sort.partition aheadB d a b pv).1 : Int), .bool (Go.Sort.partition aheadB d a b pv).2.1]) ∧ IsA w' base g N cap (Go.Sort.partition aheadB d a b pv).2.2 ∧ Kp [g] w w' ∧ a ≤ (Go.Sort.partition aheadB d a b pv).1 ∧ (Go.Sort.partition aheadB d a b pv).1 < b := by
  obtain ⟨T, hT⟩ : ∃ T, Hid (T = Go.Sort.partition aheadB d a b pv) := ⟨_, rfl⟩
  rw [← hT.out]
  obtain ⟨i, hA1⟩ : ∃ i, Hid (i = a + 1) := ⟨_, rfl⟩
  obtain ⟨j, hB1⟩ : ∃ j, Hid (j = b - 1) := ⟨_, rfl⟩
  obtain ⟨e, hE⟩ : ∃ e, Hid (e = Go.Sort.swp d a pv) := ⟨_, rfl⟩
  have wa : IntKind.i64.wrap ((a : Int) + 1) = (i : Int) := by rw [hA1.out, IntKind.wrap_i64]; omega
  have wb : IntKind.i64.wrap ((b : Int) - 1) = (j : Int) := by rw [hB1.out, IntKind.wrap_i64]; omega
  have SW := swapA h a pv (by omega) (by omega)
  rw [← hE.out] at SW
  have M1 := meth_lessV 234 (by decide) (some ⟨g, 0, none⟩) N cap
  have M2 := meth_swapV 234 (by decide) (some ⟨g, 0, none⟩) N cap
  have hi : a + 1 ≤ i := by have := hA1.out; omega
  have hij : i ≤ j + 2 := by have := hA1.out; have := hB1.out; omega
  have haj : a ≤ j := by have := hB1.out; omega
  have hj : j < b := by have := hB1.out; omega
  obtain ⟨I2, hI2⟩ : ∃ I2, Hid (I2 = sUp (fun x => aheadB x e[a]!) e j i) := ⟨_, rfl⟩
  obtain ⟨J2, hJ2⟩ : ∃ J2, Hid (J2 = sDn (fun x => !aheadB x e[a]!) e I2 j) := ⟨_, rfl⟩
  have HE : Hid ((J2 < I2 → (J2, true, Go.Sort.swp e J2 a) = T) ∧ (¬ J2 < I2 → ((plp a (I2 + 1) (J2 - 1) (Go.Sort.swp e I2 J2)).1, false, Go.Sort.swp (plp a (I2 + 1) (J2 - 1) (Go.Sort.swp e I2 J2)).2 (plp a (I2 + 1) (J2 - 1) (Go.Sort.swp e I2 J2)).1 a) = T)) := ⟨fun h => by rw [hT.out]; exact (part_stop d a b pv i j I2 J2 e hE.out hA1.out hB1.out hI2.out hJ2.out h).symm, fun h => by rw [hT.out]; exact (part_go d a b pv i j I2 J2 e hE.out hA1.out hB1.out hI2.out hJ2.out h).symm⟩
  clear h hT hE
  go_enter Try.func56, Try.ntmps56
  go_wp2_with fail
  refine SW.mono ?_
  rintro e9 z0 ⟨rfl, hA, hK⟩
  clear SW
  have INI : Hid (∃ i' : Nat, Value.int .i64 (i : Int) = .int .i64 (i' : Int) ∧ i ≤ i' ∧ i' ≤ b + 1 ∧ sUp (fun x => aheadB x e[a]!) e j i' = I2 ∧ IsA z0 base g N cap e ∧ Kp [g] w z0) := ⟨i, rfl, Nat.le_refl _, by omega, hI2.out.symm, hA, hK⟩
  clear hA hK hI2
  go_wp2_with fail
  go_loopw [10] (fun u vr => ∃ i' : Nat, u = .int .i64 (i' : Int) ∧ i ≤ i' ∧ i' ≤ b + 1 ∧ sUp (fun x => aheadB x e[a]!) e j i' = I2 ∧ IsA vr base g N cap e ∧ Kp [g] w vr) (fun u _ => b + 2 - (intOf u).toNat)
  case atStart => exact INI.out
  case round =>
    clear INI
    obtain ⟨i', rfl, hi1, hi2, hs, hA, hK⟩ := hrel
    by_cases hle : i' ≤ j
    rotate_left
    · have gi : ¬ (i' : Int) ≤ (j : Int) := by omega
      rw [up_end (fun x => aheadB x e[a]!) e j i' hle] at hs
      subst hs
      have INI : Hid (∃ j' : Nat, Value.int .i64 (j : Int) = .int .i64 (j' : Int) ∧ j' ≤ j ∧ a ≤ j' ∧ sDn (fun x => !aheadB x e[a]!) e i' j' = J2 ∧ IsA wr base g N cap e ∧ Kp [g] w wr) := ⟨j, rfl, Nat.le_refl _, by omega, hJ2.out.symm, hA, hK⟩
      clear hA hK hJ2
      go_wp2_with fail
      go_loopw [11] (fun u vr => ∃ j' : Nat, u = .int .i64 (j' : Int) ∧ j' ≤ j ∧ a ≤ j' ∧ sDn (fun x => !aheadB x e[a]!) e i' j' = J2 ∧ IsA vr base g N cap e ∧ Kp [g] w vr) (fun u _ => (intOf u).toNat)
      case atStart => exact INI.out
      case round =>
        clear INI
        obtain ⟨j', rfl, hj1, hj2, hs, hA, hK⟩ := hrel
        by_cases hle : i' ≤ j'
        rotate_left
        · have gj : ¬ (i' : Int) ≤ (j' : Int) := by omega
          have gj2 : (j' : Int) < (i' : Int) := by omega
          have gj3 : (i' : Int) > (j' : Int) := by omega
          rw [dn_end (fun x => !aheadB x e[a]!) e i' j' hle] at hs
          subst hs
          have eT : (j', true, Go.Sort.swp e j' a) = T := HE.out.1 (by omega)
          have SW := swapA hA j' a (by omega) (by omega)
          have HK : Hid (Kp [g] w wr) := hK
          have ET : Hid _ := eT
          clear hA hK HE eT
          go_wp2_with fail
          refine SW.mono ?_
          rintro e9 z2 ⟨rfl, A2, k2⟩
          clear SW
          have R2 : Hid (IsA z2 base g N cap (Go.Sort.swp e j' a) ∧ Kp [g] w z2) := ⟨A2, HK.out.trans k2⟩
          clear A2 k2 HK
          go_wp2_with fail
          go_ret2
          rw [← ET.out]
          exact ⟨rfl, R2.out.1, R2.out.2, by show a ≤ j'; omega, by show j' < b; omega⟩
        exact absurd hle (by omega)
    have gi : (i' : Int) ≤ (j : Int) := by omega
    have L1 := lessA hA i' a (by omega) (by omega)
    have RES : Hid (∀ z, Below wr.heap.size wr z → IsA z base g N cap e ∧ Kp [g] w z) := fun z hz => ⟨hA.next hz, hK.trans (Kp.of hz)⟩
    clear hA hK
    cases hl : aheadB e[i']! e[a]! with
    | true =>
      rw [hl] at L1
      rw [up_go (fun x => aheadB x e[a]!) e j i' hle (by simp [hl])] at hs
      have HS : Hid _ := hs
      have wi : IntKind.i64.wrap ((i' : Int) + 1) = ((i' + 1 : Nat) : Int) := by rw [IntKind.wrap_i64]; omega
      clear hl hs
      go_wp2_with fail
      refine L1.mono ?_
      rintro e9 z ⟨rfl, bz⟩
      have R2 : Hid _ := RES.out z bz
      clear L1 bz RES
      go_wp2_with fail
      exact ⟨⟨i' + 1, rfl, by omega, by omega, HS.out, R2.out⟩, by simp [intOf]; omega⟩
    | false =>
      rw [hl] at L1
      rw [up_not (fun x => aheadB x e[a]!) e j i' (by simp [hl])] at hs
      subst hs
      clear hl
      go_wp2_with fail
      refine L1.mono ?_
      rintro e9 z ⟨rfl, bz⟩
      obtain ⟨hA, hK⟩ := RES.out z bz
      clear L1 bz RES
      have INI : Hid (∃ j' : Nat, Value.int .i64 (j : Int) = .int .i64 (j' : Int) ∧ j' ≤ j ∧ a ≤ j' ∧ sDn (fun x => !aheadB x e[a]!) e i' j' = J2 ∧ IsA z base g N cap e ∧ Kp [g] w z) := ⟨j, rfl, Nat.le_refl _, by omega, hJ2.out.symm, hA, hK⟩
      clear hA hK hJ2
      go_wp2_with fail
      go_loopw [11] (fun u vr => ∃ j' : Nat, u = .int .i64 (j' : Int) ∧ j' ≤ j ∧ a ≤ j' ∧ sDn (fun x => !aheadB x e[a]!) e i' j' = J2 ∧ IsA vr base g N cap e ∧ Kp [g] w vr) (fun u _ => (intOf u).toNat)
      case atStart => exact INI.out
      case round =>
        clear INI
        obtain ⟨j', rfl, hj1, hj2, hs, hA, hK⟩ := hrel
        by_cases hle : i' ≤ j'
        rotate_left
        · have gj : ¬ (i' : Int) ≤ (j' : Int) := by omega
          have gj2 : (j' : Int) < (i' : Int) := by omega
          have gj3 : (i' : Int) > (j' : Int) := by omega
          rw [dn_end (fun x => !aheadB x e[a]!) e i' j' hle] at hs
          subst hs
          have eT : (j', true, Go.Sort.swp e j' a) = T := HE.out.1 (by omega)
          have SW := swapA hA j' a (by omega) (by omega)
          have HK : Hid (Kp [g] w wr) := hK
          have ET : Hid _ := eT
          clear hA hK HE eT
          go_wp2_with fail
          refine SW.mono ?_
          rintro e9 z2 ⟨rfl, A2, k2⟩
          clear SW
          have R2 : Hid (IsA z2 base g N cap (Go.Sort.swp e j' a) ∧ Kp [g] w z2) := ⟨A2, HK.out.trans k2⟩
          clear A2 k2 HK
          go_wp2_with fail
          go_ret2
          rw [← ET.out]
          exact ⟨rfl, R2.out.1, R2.out.2, by show a ≤ j'; omega, by show j' < b; omega⟩
        have gj : (i' : Int) ≤ (j' : Int) := by omega
        have gj2 : ¬ (j' : Int) < (i' : Int) := by omega
        have gj3 : ¬ (i' : Int) > (j' : Int) := by omega
        have L1 := lessA hA j' a (by omega) (by omega)
        have RES : Hid (∀ z, Below wr.heap.size wr z → IsA z base g N cap e ∧ Kp [g] w z) := fun z hz => ⟨hA.next hz, hK.trans (Kp.of hz)⟩
        clear hA hK
        obtain ⟨k, hk⟩ : ∃ k, Hid (j' = k + 1) := ⟨j' - 1, by show j' = _; omega⟩
        cases hl : aheadB e[j']! e[a]! with
        | false =>
          rw [hl] at L1
          have HS : Hid (sDn (fun x => !aheadB x e[a]!) e i' k = J2) := by
            have hk' := hk.out
            subst hk'
            show _ = J2
            rw [← hs, dn_go (fun x => !aheadB x e[a]!) e i' k hle (by simp [hl])]
          have wi : IntKind.i64.wrap ((j' : Int) - 1) = (k : Int) := by have := hk.out; rw [IntKind.wrap_i64]; omega
          clear hl hs
          go_wp2_with fail
          refine L1.mono ?_
          rintro e9 z ⟨rfl, bz⟩
          have R2 : Hid _ := RES.out z bz
          clear L1 bz RES
          go_wp2_with fail
          have hk' := hk.out
          exact ⟨⟨k, rfl, by omega, by omega, HS.out, R2.out⟩, by simp [intOf]; omega⟩
        | true =>
          rw [hl] at L1
          rw [show sDn (fun x => !aheadB x e[a]!) e i' j' = j' from by rw [hk.out]; exact dn_not (fun x => !aheadB x e[a]!) e i' k (by rw [← hk.out]; simp [hl])] at hs
          subst hs
          clear hl
          go_wp2_with fail
          refine L1.mono ?_
          rintro e9 z ⟨rfl, bz⟩
          obtain ⟨hA, hK⟩ := RES.out z bz
          clear L1 bz RES
          obtain ⟨R, hR⟩ : ∃ R, Hid (R = plp a (i' + 1) k (Go.Sort.swp e i' j')) := ⟨_, rfl⟩
          have HR : Hid (T = (R.1, false, Go.Sort.swp R.2 R.1 a)) := by
            have := HE.out.2 (by omega)
            rw [show j' - 1 = k from by have := hk.out; omega, ← hR.out] at this
            exact this.symm
          have wi : IntKind.i64.wrap ((i' : Int) + 1) = ((i' + 1 : Nat) : Int) := by rw [IntKind.wrap_i64]; omega
          have wj : IntKind.i64.wrap ((j' : Int) - 1) = (k : Int) := by have := hk.out; rw [IntKind.wrap_i64]; omega
          have SW := swapA hA i' j' (by omega) (by omega)
          have HK : Hid (Kp [g] w z) := hK
          clear hA hK HE
          go_wp2_with fail
          refine SW.mono ?_
          rintro e9 z2 ⟨rfl, A2, k2⟩
          clear SW
          have R2 : Hid (IsA z2 base g N cap (Go.Sort.swp e i' j') ∧ Kp [g] w z2) := ⟨A2, HK.out.trans k2⟩
          clear A2 k2 HK
          have hk' := hk.out
          have INI : Hid (∃ (i j : Nat) (e : Array Sn), Value.int .i64 ((i' + 1 : Nat) : Int) = .int .i64 (i : Int) ∧ Value.int .i64 (k : Int) = .int .i64 (j : Int) ∧ a + 1 ≤ i ∧ i ≤ j + 2 ∧ a ≤ j ∧ j < b ∧ plp a i j e = R ∧ IsA z2 base g N cap e ∧ Kp [g] w z2) := ⟨i' + 1, k, _, rfl, rfl, by omega, by omega, by omega, by omega, hR.out.symm, R2.out⟩
          clear R2 hR
          go_wp2_with fail
          go_loopw [10, 11] (fun u v wr => ∃ (i j : Nat) (e : Array Sn), u = .int .i64 (i : Int) ∧ v = .int .i64 (j : Int) ∧ a + 1 ≤ i ∧ i ≤ j + 2 ∧ a ≤ j ∧ j < b ∧ plp a i j e = R ∧ IsA wr base g N cap e ∧ Kp [g] w wr) (fun u v _ => (intOf v + 2 - intOf u).toNat)
          case atStart => exact INI.out
          case round =>
            clear INI hle hk hk' hi1 hi2 hj1 hj2 gj gj2 gj3 gi wi wj hi hij haj hj hA1 hB1
            obtain ⟨i, j, e, rfl, rfl, hi, hij, haj, hj, he, hA, hK⟩ := hrel
            obtain ⟨I2, hI2⟩ : ∃ I2, Hid (I2 = sUp (fun x => aheadB x e[a]!) e j i) := ⟨_, rfl⟩
            obtain ⟨J2, hJ2⟩ : ∃ J2, Hid (J2 = sDn (fun x => !aheadB x e[a]!) e I2 j) := ⟨_, rfl⟩
            have HE : Hid ((J2 < I2 → (J2, e) = R) ∧ (¬ J2 < I2 → (J2 - 1) + 1 - (I2 + 1) < j + 1 - i → plp a (I2 + 1) (J2 - 1) (Go.Sort.swp e I2 J2) = R)) := ⟨fun h => by rw [← plp_stop a i j I2 J2 e hI2.out hJ2.out h]; exact he, fun h hg => by rw [← plp_go a i j I2 J2 e hI2.out hJ2.out h hg]; exact he⟩
            clear he
            have INI : Hid (∃ i' : Nat, Value.int .i64 (i : Int) = .int .i64 (i' : Int) ∧ i ≤ i' ∧ i' ≤ b + 1 ∧ sUp (fun x => aheadB x e[a]!) e j i' = I2 ∧ IsA wr base g N cap e ∧ Kp [g] w wr) := ⟨i, rfl, Nat.le_refl _, by omega, hI2.out.symm, hA, hK⟩
            clear hA hK hI2
            go_wp2_with fail
            go_loopw [10] (fun u vr => ∃ i' : Nat, u = .int .i64 (i' : Int) ∧ i ≤ i' ∧ i' ≤ b + 1 ∧ sUp (fun x => aheadB x e[a]!) e j i' = I2 ∧ IsA vr base g N cap e ∧ Kp [g] w vr) (fun u _ => b + 2 - (intOf u).toNat)
            case atStart => exact INI.out
            case round =>
              clear INI
              obtain ⟨i', rfl, hi1, hi2, hs, hA, hK⟩ := hrel
              by_cases hle : i' ≤ j
              rotate_left
              · have gi : ¬ (i' : Int) ≤ (j : Int) := by omega
                rw [up_end (fun x => aheadB x e[a]!) e j i' hle] at hs
                subst hs
                have INI : Hid (∃ j' : Nat, Value.int .i64 (j : Int) = .int .i64 (j' : Int) ∧ j' ≤ j ∧ a ≤ j' ∧ sDn (fun x => !aheadB x e[a]!) e i' j' = J2 ∧ IsA wr base g N cap e ∧ Kp [g] w wr) := ⟨j, rfl, Nat.le_refl _, by omega, hJ2.out.symm, hA, hK⟩
                clear hA hK hJ2
                go_wp2_with fail
                go_loopw [11] (fun u vr => ∃ j' : Nat, u = .int .i64 (j' : Int) ∧ j' ≤ j ∧ a ≤ j' ∧ sDn (fun x => !aheadB x e[a]!) e i' j' = J2 ∧ IsA vr base g N cap e ∧ Kp [g] w vr) (fun u _ => (intOf u).toNat)
                case atStart => exact INI.out
                case round =>
                  clear INI
                  obtain ⟨j', rfl, hj1, hj2, hs, hA, hK⟩ := hrel
                  by_cases hle : i' ≤ j'
                  rotate_left
                  · have gj : ¬ (i' : Int) ≤ (j' : Int) := by omega
                    have gj2 : (j' : Int) < (i' : Int) := by omega
                    have gj3 : (i' : Int) > (j' : Int) := by omega
                    rw [dn_end (fun x => !aheadB x e[a]!) e i' j' hle] at hs
                    subst hs
                    have eR : (j', e) = R := HE.out.1 (by omega)
                    subst eR
                    have SW := swapA hA j' a (by omega) (by omega)
                    have HK : Hid (Kp [g] w wr) := hK
                    clear hA hK HE
                    go_wp2_with fail
                    refine SW.mono ?_
                    rintro e9 z2 ⟨rfl, A2, k2⟩
                    clear SW
                    have R2 : Hid (IsA z2 base g N cap (Go.Sort.swp e j' a) ∧ Kp [g] w z2) := ⟨A2, HK.out.trans k2⟩
                    clear A2 k2 HK
                    go_wp2_with fail
                    go_ret2
                    rw [HR.out]
                    exact ⟨rfl, R2.out.1, R2.out.2, by show a ≤ j'; omega, by show j' < b; omega⟩
                  exact absurd hle (by omega)
              have gi : (i' : Int) ≤ (j : Int) := by omega
              have L1 := lessA hA i' a (by omega) (by omega)
              have RES : Hid (∀ z, Below wr.heap.size wr z → IsA z base g N cap e ∧ Kp [g] w z) := fun z hz => ⟨hA.next hz, hK.trans (Kp.of hz)⟩
              clear hA hK
              cases hl : aheadB e[i']! e[a]! with
              | true =>
                rw [hl] at L1
                rw [up_go (fun x => aheadB x e[a]!) e j i' hle (by simp [hl])] at hs
                have HS : Hid _ := hs
                have wi : IntKind.i64.wrap ((i' : Int) + 1) = ((i' + 1 : Nat) : Int) := by rw [IntKind.wrap_i64]; omega
                clear hl hs
                go_wp2_with fail
                refine L1.mono ?_
                rintro e9 z ⟨rfl, bz⟩
                have R2 : Hid _ := RES.out z bz
                clear L1 bz RES
                go_wp2_with fail
                exact ⟨⟨i' + 1, rfl, by omega, by omega, HS.out, R2.out⟩, by simp [intOf]; omega⟩
              | false =>
                rw [hl] at L1
                rw [up_not (fun x => aheadB x e[a]!) e j i' (by simp [hl])] at hs
                subst hs
                clear hl
                go_wp2_with fail
                refine L1.mono ?_
                rintro e9 z ⟨rfl, bz⟩
                obtain ⟨hA, hK⟩ := RES.out z bz
                clear L1 bz RES
                have INI : Hid (∃ j' : Nat, Value.int .i64 (j : Int) = .int .i64 (j' : Int) ∧ j' ≤ j ∧ a ≤ j' ∧ sDn (fun x => !aheadB x e[a]!) e i' j' = J2 ∧ IsA z base g N cap e ∧ Kp [g] w z) := ⟨j, rfl, Nat.le_refl _, by omega, hJ2.out.symm, hA, hK⟩
                clear hA hK hJ2
                go_wp2_with fail
                go_loopw [11] (fun u vr => ∃ j' : Nat, u = .int .i64 (j' : Int) ∧ j' ≤ j ∧ a ≤ j' ∧ sDn (fun x => !aheadB x e[a]!) e i' j' = J2 ∧ IsA vr base g N cap e ∧ Kp [g] w vr) (fun u _ => (intOf u).toNat)
                case atStart => exact INI.out
                case round =>
                  clear INI
                  obtain ⟨j', rfl, hj1, hj2, hs, hA, hK⟩ := hrel
                  by_cases hle : i' ≤ j'
                  rotate_left
                  · have gj : ¬ (i' : Int) ≤ (j' : Int) := by omega
                    have gj2 : (j' : Int) < (i' : Int) := by omega
                    have gj3 : (i' : Int) > (j' : Int) := by omega
                    rw [dn_end (fun x => !aheadB x e[a]!) e i' j' hle] at hs
                    subst hs
                    have eR : (j', e) = R := HE.out.1 (by omega)
                    subst eR
                    have SW := swapA hA j' a (by omega) (by omega)
                    have HK : Hid (Kp [g] w wr) := hK
                    clear hA hK HE
                    go_wp2_with fail
                    refine SW.mono ?_
                    rintro e9 z2 ⟨rfl, A2, k2⟩
                    clear SW
                    have R2 : Hid (IsA z2 base g N cap (Go.Sort.swp e j' a) ∧ Kp [g] w z2) := ⟨A2, HK.out.trans k2⟩
                    clear A2 k2 HK
                    go_wp2_with fail
                    go_ret2
                    rw [HR.out]
                    exact ⟨rfl, R2.out.1, R2.out.2, by show a ≤ j'; omega, by show j' < b; omega⟩
                  have gj : (i' : Int) ≤ (j' : Int) := by omega
                  have gj2 : ¬ (j' : Int) < (i' : Int) := by omega
                  have gj3 : ¬ (i' : Int) > (j' : Int) := by omega
                  have L1 := lessA hA j' a (by omega) (by omega)
                  have RES : Hid (∀ z, Below wr.heap.size wr z → IsA z base g N cap e ∧ Kp [g] w z) := fun z hz => ⟨hA.next hz, hK.trans (Kp.of hz)⟩
                  clear hA hK
                  obtain ⟨k, hk⟩ : ∃ k, Hid (j' = k + 1) := ⟨j' - 1, by show j' = _; omega⟩
                  cases hl : aheadB e[j']! e[a]! with
                  | false =>
                    rw [hl] at L1
                    have HS : Hid (sDn (fun x => !aheadB x e[a]!) e i' k = J2) := by
                      have hk' := hk.out
                      subst hk'
                      show _ = J2
                      rw [← hs, dn_go (fun x => !aheadB x e[a]!) e i' k hle (by simp [hl])]
                    have wi : IntKind.i64.wrap ((j' : Int) - 1) = (k : Int) := by have := hk.out; rw [IntKind.wrap_i64]; omega
                    clear hl hs
                    go_wp2_with fail
                    refine L1.mono ?_
                    rintro e9 z ⟨rfl, bz⟩
                    have R2 : Hid _ := RES.out z bz
                    clear L1 bz RES
                    go_wp2_with fail
                    have hk' := hk.out
                    exact ⟨⟨k, rfl, by omega, by omega, HS.out, R2.out⟩, by simp [intOf]; omega⟩
                  | true =>
                    rw [hl] at L1
                    rw [show sDn (fun x => !aheadB x e[a]!) e i' j' = j' from by rw [hk.out]; exact dn_not (fun x => !aheadB x e[a]!) e i' k (by rw [← hk.out]; simp [hl])] at hs
                    subst hs
                    clear hl
                    go_wp2_with fail
                    refine L1.mono ?_
                    rintro e9 z ⟨rfl, bz⟩
                    obtain ⟨hA, hK⟩ := RES.out z bz
                    clear L1 bz RES
                    have HE2 : Hid (plp a (i' + 1) k (Go.Sort.swp e i' j') = R) := by
                      have := HE.out.2 (by omega) (by omega)
                      rw [show j' - 1 = k from by have := hk.out; omega] at this
                      exact this
                    have wi : IntKind.i64.wrap ((i' : Int) + 1) = ((i' + 1 : Nat) : Int) := by rw [IntKind.wrap_i64]; omega
                    have wj : IntKind.i64.wrap ((j' : Int) - 1) = (k : Int) := by have := hk.out; rw [IntKind.wrap_i64]; omega
                    have SW := swapA hA i' j' (by omega) (by omega)
                    have HK : Hid (Kp [g] w z) := hK
                    clear hA hK HE
                    go_wp2_with fail
                    refine SW.mono ?_
                    rintro e9 z2 ⟨rfl, A2, k2⟩
                    clear SW
                    have R2 : Hid (IsA z2 base g N cap (Go.Sort.swp e i' j') ∧ Kp [g] w z2) := ⟨A2, HK.out.trans k2⟩
                    clear A2 k2 HK
                    have hk' := hk.out
                    go_wp2_with fail
                    exact ⟨⟨i' + 1, k, _, rfl, rfl, by omega, by omega, by omega, by omega, HE2.out, R2.out⟩, by simp [intOf]; omega⟩
#print axioms partition_any
end Go.Proofs.Ytndlpjfofjikeaa
