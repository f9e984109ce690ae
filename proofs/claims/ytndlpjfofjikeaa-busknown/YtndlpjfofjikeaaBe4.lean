/-
  The walk of the sort's partitionEqual.
-/
import Derived.Test.YtndlpjfofjikeaaBc4
namespace Go.Proofs.Ytndlpjfofjikeaa
open Go.RowKit

abbrev sUp (p : Sn → Bool) (d : Array Sn) (j i : Nat) : Nat := Go.Sort.scanUp p d j i
abbrev sDn (p : Sn → Bool) (d : Array Sn) (i j : Nat) : Nat := Go.Sort.scanDown p d i j
theorem up_go (p : Sn → Bool) (d : Array Sn) (j i : Nat) (h : i ≤ j) (hp : p d[i]! = true) : sUp p d j i = sUp p d j (i + 1) := by
  conv => lhs; unfold sUp Go.Sort.scanUp
  rw [if_pos (by simp [h, hp])]
theorem up_end (p : Sn → Bool) (d : Array Sn) (j i : Nat) (h : ¬ i ≤ j) : sUp p d j i = i := by
  unfold sUp Go.Sort.scanUp
  rw [if_neg (by simp; omega)]
theorem up_not (p : Sn → Bool) (d : Array Sn) (j i : Nat) (hp : p d[i]! = false) : sUp p d j i = i := by
  unfold sUp Go.Sort.scanUp
  rw [if_neg (by simp [hp])]
theorem dn_go (p : Sn → Bool) (d : Array Sn) (i k : Nat) (h : i ≤ k + 1) (hp : p d[k + 1]! = true) : sDn p d i (k + 1) = sDn p d i k := by
  conv => lhs; unfold sDn Go.Sort.scanDown
  rw [if_pos (by simp [h, hp])]
theorem dn_end (p : Sn → Bool) (d : Array Sn) (i j : Nat) (h : ¬ i ≤ j) : sDn p d i j = j := by
  cases j with
  | zero => rfl
  | succ k => unfold sDn Go.Sort.scanDown; rw [if_neg (by simp; omega)]
theorem dn_not (p : Sn → Bool) (d : Array Sn) (i k : Nat) (hp : p d[k + 1]! = false) : sDn p d i (k + 1) = k + 1 := by
  unfold sDn Go.Sort.scanDown; rw [if_neg (by simp [hp])]
abbrev peq (a i j : Nat) (d : Array Sn) : Nat × Array Sn := Go.Sort.partEqLoop aheadB a i j d
theorem peq_stop (a i j I J : Nat) (d : Array Sn) (hI : I = sUp (fun x => !aheadB d[a]! x) d j i) (hJ : J = sDn (fun x => aheadB d[a]! x) d I j) (h : J < I) : peq a i j d = (I, d) := by
  subst hJ hI
  unfold peq Go.Sort.partEqLoop
  dsimp only
  rw [if_pos h]
theorem peq_go (a i j I J : Nat) (d : Array Sn) (hI : I = sUp (fun x => !aheadB d[a]! x) d j i) (hJ : J = sDn (fun x => aheadB d[a]! x) d I j) (h : ¬ J < I) (hg : (J - 1) + 1 - (I + 1) < j + 1 - i) : peq a i j d = peq a (I + 1) (J - 1) (Go.Sort.swp d I J) := by
  subst hJ hI
  conv => lhs; unfold peq Go.Sort.partEqLoop
  dsimp only
  rw [if_neg h, dif_pos hg]

set_option linter.unusedSimpArgs false in
set_option maxHeartbeats 4000000 in
set_option maxRecDepth 100000 in
theorem partitionEqual_any {w : World} {base g N cap : Nat} {d : Array Sn} (h : IsA w base g N cap d) (a b pv : Nat) (hap : a ≤ pv) (hpb : pv < b) (hb : b ≤ N) (hN : N ≤ 1000000) :
    Calls Try.prog 55 #[.iface 59 (.agg #[.slice (some ⟨g, 0, none⟩) N cap]), .int .i64 (a : Int), .int .i64 (b : Int), .int .i64 (pv : Int)] w fun e w' => e = .returned (.int .i64 ((Go.Sort.partitionEqual aheadB d a b pv).1 : Int)) ∧ IsA w' base g N cap (Go.Sort.partitionEqual aheadB d a b pv).2 ∧ Kp [g] w w' ∧ a < (Go.Sort.partitionEqual aheadB d a b pv).1 ∧ (Go.Sort.partitionEqual aheadB d a b pv).1 ≤ b := by
  obtain ⟨T, hT⟩ : ∃ T, Hid (T = Go.Sort.partitionEqual aheadB d a b pv) := ⟨_, rfl⟩
  rw [← hT.out]
  have hT2 : Hid (peq a (a + 1) (b - 1) (Go.Sort.swp d a pv) = T) := by show _ = T; rw [hT.out]; rfl
  obtain ⟨A1, hA1⟩ : ∃ A1, Hid (A1 = a + 1) := ⟨_, rfl⟩
  obtain ⟨B1, hB1⟩ : ∃ B1, Hid (B1 = b - 1) := ⟨_, rfl⟩
  have wa : IntKind.i64.wrap ((a : Int) + 1) = (A1 : Int) := by rw [hA1.out, IntKind.wrap_i64]; omega
  have wb : IntKind.i64.wrap ((b : Int) - 1) = (B1 : Int) := by rw [hB1.out, IntKind.wrap_i64]; omega
  have SW := swapA h a pv (by omega) (by omega)
  have M1 := meth_lessV 234 (by decide) (some ⟨g, 0, none⟩) N cap
  have M2 := meth_swapV 234 (by decide) (some ⟨g, 0, none⟩) N cap
  clear h hT
  go_enter Try.func55, Try.ntmps55
  go_wp2_with fail
  refine SW.mono ?_
  rintro e9 z0 ⟨rfl, A0, k0⟩
  clear SW
  have INI : Hid (∃ (i j : Nat) (e : Array Sn), Value.int .i64 (A1 : Int) = .int .i64 (i : Int) ∧ Value.int .i64 (B1 : Int) = .int .i64 (j : Int) ∧ a + 1 ≤ i ∧ i ≤ j + 2 ∧ i ≤ b ∧ a ≤ j ∧ j < b ∧ peq a i j e = T ∧ IsA z0 base g N cap e ∧ Kp [g] w z0) := ⟨A1, B1, _, rfl, rfl, by have := hA1.out; omega, by have := hA1.out; have := hB1.out; omega, by have := hA1.out; omega, by have := hB1.out; omega, by have := hB1.out; omega, by rw [hA1.out, hB1.out]; exact hT2.out, A0, k0⟩
  clear A0 k0 hT2
  go_wp2_with fail
  go_loopw [9, 10] (fun u v wr => ∃ (i j : Nat) (e : Array Sn), u = .int .i64 (i : Int) ∧ v = .int .i64 (j : Int) ∧ a + 1 ≤ i ∧ i ≤ j + 2 ∧ i ≤ b ∧ a ≤ j ∧ j < b ∧ peq a i j e = T ∧ IsA wr base g N cap e ∧ Kp [g] w wr) (fun u v _ => (intOf v + 2 - intOf u).toNat)
  case atStart => exact INI.out
  case round =>
    clear INI
    obtain ⟨i, j, e, rfl, rfl, hi, hij, hib, haj, hj, he, hA, hK⟩ := hrel
    obtain ⟨I2, hI2⟩ : ∃ I2, Hid (I2 = sUp (fun x => !aheadB e[a]! x) e j i) := ⟨_, rfl⟩
    obtain ⟨J2, hJ2⟩ : ∃ J2, Hid (J2 = sDn (fun x => aheadB e[a]! x) e I2 j) := ⟨_, rfl⟩
    have HE : Hid ((J2 < I2 → (I2, e) = T) ∧ (¬ J2 < I2 → (J2 - 1) + 1 - (I2 + 1) < j + 1 - i → peq a (I2 + 1) (J2 - 1) (Go.Sort.swp e I2 J2) = T)) := ⟨fun h => by rw [← peq_stop a i j I2 J2 e hI2.out hJ2.out h]; exact he, fun h hg => by rw [← peq_go a i j I2 J2 e hI2.out hJ2.out h hg]; exact he⟩
    clear he
    have INI : Hid (∃ i' : Nat, Value.int .i64 (i : Int) = .int .i64 (i' : Int) ∧ i ≤ i' ∧ i' ≤ b ∧ sUp (fun x => !aheadB e[a]! x) e j i' = I2 ∧ IsA wr base g N cap e ∧ Kp [g] w wr) := ⟨i, rfl, Nat.le_refl _, by omega, hI2.out.symm, hA, hK⟩
    clear hA hK hI2
    go_wp2_with fail
    go_loopw [9] (fun u vr => ∃ i' : Nat, u = .int .i64 (i' : Int) ∧ i ≤ i' ∧ i' ≤ b ∧ sUp (fun x => !aheadB e[a]! x) e j i' = I2 ∧ IsA vr base g N cap e ∧ Kp [g] w vr) (fun u _ => b + 2 - (intOf u).toNat)
    case atStart => exact INI.out
    case round =>
      clear INI
      obtain ⟨i', rfl, hi1, hi2, hs, hA, hK⟩ := hrel
      by_cases hle : i' ≤ j
      rotate_left
      · have gi : ¬ (i' : Int) ≤ (j : Int) := by omega
        rw [up_end (fun x => !aheadB e[a]! x) e j i' hle] at hs
        subst hs
        have INI : Hid (∃ j' : Nat, Value.int .i64 (j : Int) = .int .i64 (j' : Int) ∧ j' ≤ j ∧ a ≤ j' ∧ sDn (fun x => aheadB e[a]! x) e i' j' = J2 ∧ IsA wr base g N cap e ∧ Kp [g] w wr) := ⟨j, rfl, Nat.le_refl _, by omega, hJ2.out.symm, hA, hK⟩
        clear hA hK hJ2
        go_wp2_with fail
        go_loopw [10] (fun u vr => ∃ j' : Nat, u = .int .i64 (j' : Int) ∧ j' ≤ j ∧ a ≤ j' ∧ sDn (fun x => aheadB e[a]! x) e i' j' = J2 ∧ IsA vr base g N cap e ∧ Kp [g] w vr) (fun u _ => (intOf u).toNat)
        case atStart => exact INI.out
        case round =>
          clear INI
          obtain ⟨j', rfl, hj1, hj2, hs, hA, hK⟩ := hrel
          by_cases hle : i' ≤ j'
          rotate_left
          · have gj : ¬ (i' : Int) ≤ (j' : Int) := by omega
            have gj2 : (j' : Int) < (i' : Int) := by omega
            have gj3 : (i' : Int) > (j' : Int) := by omega
            rw [dn_end (fun x => aheadB e[a]! x) e i' j' hle] at hs
            subst hs
            have eT : (i', e) = T := HE.out.1 (by omega)
            have RES : Hid (IsA wr base g N cap e ∧ Kp [g] w wr) := ⟨hA, hK⟩
            have ET : Hid _ := eT
            clear hA hK eT HE
            go_wp2_with fail
            go_ret
            rw [← ET.out]
            exact ⟨rfl, RES.out.1, RES.out.2, by show a < i'; omega, by show i' ≤ b; omega⟩
          exact absurd hle (by omega)
      have gi : (i' : Int) ≤ (j : Int) := by omega
      have L1 := lessA hA a i' (by omega) (by omega)
      have RES : Hid (∀ z, Below wr.heap.size wr z → IsA z base g N cap e ∧ Kp [g] w z) := fun z hz => ⟨hA.next hz, hK.trans (Kp.of hz)⟩
      clear hA hK
      cases hl : aheadB e[a]! e[i']! with
      | false =>
        rw [hl] at L1
        rw [up_go (fun x => !aheadB e[a]! x) e j i' hle (by simp [hl])] at hs
        have HS : Hid _ := hs
        have wi : IntKind.i64.wrap ((i' : Int) + 1) = ((i' + 1 : Nat) : Int) := by rw [IntKind.wrap_i64]; omega
        clear hl hs
        go_wp2_with fail
        refine L1.mono ?_
        rintro e9 z ⟨rfl, bz⟩
        have R2 : Hid _ := RES.out z bz
        clear L1 bz RES
        go_wp2_with fail
        exact ⟨⟨i' + 1, rfl, by omega, by omega, HS.out, R2.out⟩, by simp [intOf]; omega⟩
      | true =>
        rw [hl] at L1
        rw [up_not (fun x => !aheadB e[a]! x) e j i' (by simp [hl])] at hs
        subst hs
        clear hl
        go_wp2_with fail
        refine L1.mono ?_
        rintro e9 z ⟨rfl, bz⟩
        obtain ⟨hA, hK⟩ := RES.out z bz
        clear L1 bz RES
        have INI : Hid (∃ j' : Nat, Value.int .i64 (j : Int) = .int .i64 (j' : Int) ∧ j' ≤ j ∧ a ≤ j' ∧ sDn (fun x => aheadB e[a]! x) e i' j' = J2 ∧ IsA z base g N cap e ∧ Kp [g] w z) := ⟨j, rfl, Nat.le_refl _, by omega, hJ2.out.symm, hA, hK⟩
        clear hA hK hJ2
        go_wp2_with fail
        go_loopw [10] (fun u vr => ∃ j' : Nat, u = .int .i64 (j' : Int) ∧ j' ≤ j ∧ a ≤ j' ∧ sDn (fun x => aheadB e[a]! x) e i' j' = J2 ∧ IsA vr base g N cap e ∧ Kp [g] w vr) (fun u _ => (intOf u).toNat)
        case atStart => exact INI.out
        case round =>
          clear INI
          obtain ⟨j', rfl, hj1, hj2, hs, hA, hK⟩ := hrel
          by_cases hle : i' ≤ j'
          rotate_left
          · have gj : ¬ (i' : Int) ≤ (j' : Int) := by omega
            have gj2 : (j' : Int) < (i' : Int) := by omega
            have gj3 : (i' : Int) > (j' : Int) := by omega
            rw [dn_end (fun x => aheadB e[a]! x) e i' j' hle] at hs
            subst hs
            have eT : (i', e) = T := HE.out.1 (by omega)
            have RES : Hid (IsA wr base g N cap e ∧ Kp [g] w wr) := ⟨hA, hK⟩
            have ET : Hid _ := eT
            clear hA hK eT HE
            go_wp2_with fail
            go_ret
            rw [← ET.out]
            exact ⟨rfl, RES.out.1, RES.out.2, by show a < i'; omega, by show i' ≤ b; omega⟩
          have gj : (i' : Int) ≤ (j' : Int) := by omega
          have gj2 : ¬ (j' : Int) < (i' : Int) := by omega
          have gj3 : ¬ (i' : Int) > (j' : Int) := by omega
          have L1 := lessA hA a j' (by omega) (by omega)
          have RES : Hid (∀ z, Below wr.heap.size wr z → IsA z base g N cap e ∧ Kp [g] w z) := fun z hz => ⟨hA.next hz, hK.trans (Kp.of hz)⟩
          clear hA hK
          obtain ⟨k, hk⟩ : ∃ k, Hid (j' = k + 1) := ⟨j' - 1, by show j' = _; omega⟩
          cases hl : aheadB e[a]! e[j']! with
          | true =>
            rw [hl] at L1
            have HS : Hid (sDn (fun x => aheadB e[a]! x) e i' k = J2) := by
              have hk' := hk.out
              subst hk'
              show _ = J2
              rw [← hs, dn_go (fun x => aheadB e[a]! x) e i' k hle (by simp [hl])]
            have wi : IntKind.i64.wrap ((j' : Int) - 1) = (k : Int) := by have := hk.out; rw [IntKind.wrap_i64]; omega
            clear hl hs
            go_wp2_with fail
            refine L1.mono ?_
            rintro e9 z ⟨rfl, bz⟩
            have R2 : Hid _ := RES.out z bz
            clear L1 bz RES
            go_wp2_with fail
            have hk' := hk.out
            exact ⟨⟨k, rfl, by omega, by omega, HS.out, R2.out⟩, by simp [intOf]; omega⟩
          | false =>
            rw [hl] at L1
            rw [show sDn (fun x => aheadB e[a]! x) e i' j' = j' from by rw [hk.out]; exact dn_not (fun x => aheadB e[a]! x) e i' k (by rw [← hk.out]; simp [hl])] at hs
            subst hs
            clear hl
            go_wp2_with fail
            refine L1.mono ?_
            rintro e9 z ⟨rfl, bz⟩
            obtain ⟨hA, hK⟩ := RES.out z bz
            clear L1 bz RES
            have HE2 : Hid (peq a (i' + 1) k (Go.Sort.swp e i' j') = T) := by
              have := HE.out.2 (by omega) (by omega)
              rw [show j' - 1 = k from by have := hk.out; omega] at this
              exact this
            have wi : IntKind.i64.wrap ((i' : Int) + 1) = ((i' + 1 : Nat) : Int) := by rw [IntKind.wrap_i64]; omega
            have wj : IntKind.i64.wrap ((j' : Int) - 1) = (k : Int) := by have := hk.out; rw [IntKind.wrap_i64]; omega
            have SW := swapA hA i' j' (by omega) (by omega)
            have HK : Hid (Kp [g] w z) := hK
            clear hA hK HE
            go_wp2_with fail
            refine SW.mono ?_
            rintro e9 z2 ⟨rfl, A2, k2⟩
            clear SW
            have R2 : Hid (IsA z2 base g N cap (Go.Sort.swp e i' j') ∧ Kp [g] w z2) := ⟨A2, HK.out.trans k2⟩
            clear A2 k2 HK
            go_wp2_with fail
            have hk' := hk.out
            exact ⟨⟨i' + 1, k, _, rfl, rfl, by omega, by omega, by omega, by omega, by omega, HE2.out, R2.out⟩, by simp [intOf]; omega⟩
#print axioms partitionEqual_any
end Go.Proofs.Ytndlpjfofjikeaa
