/-
  What waits, as an array; the walk of the sort's insertionSort.
-/
import Derived.Test.YtndlpjfofjikeaaBv4
import Derived.Sort.AssemblyPlain
namespace Go.Proofs.Ytndlpjfofjikeaa
open Go.RowKit

set_option maxRecDepth 100000 in
theorem meth_lessV (K : Nat) (hK : 0 < K) (a : Option Addr) (n c : Nat) (w : World) : (method K 59 (.agg #[.slice a n c]) "Less").run Try.prog w = .ok (80, .slice a n c) w := by
  obtain ⟨k, rfl⟩ : ∃ k, K = k + 1 := ⟨K - 1, by omega⟩
  kernel_rfl

set_option maxRecDepth 100000 in
theorem meth_swapV (K : Nat) (hK : 0 < K) (a : Option Addr) (n c : Nat) (w : World) : (method K 59 (.agg #[.slice a n c]) "Swap").run Try.prog w = .ok (81, .slice a n c) w := by
  obtain ⟨k, rfl⟩ : ∃ k, K = k + 1 := ⟨K - 1, by omega⟩
  kernel_rfl

/-- An array of them in memory. -/
structure IsA (w : World) (base g N cap : Nat) (d : Array Sn) : Prop where
  size : d.size = N
  own : IsL w base (.slice (some ⟨g, 0, none⟩) N cap) d.toList
theorem IsA.next {w w' : World} {base g N cap : Nat} {d : Array Sn} (h : IsA w base g N cap d) (k : Below w.heap.size w w') : IsA w' base g N cap d :=
  ⟨h.size, h.own.kept (row := none) ⟨k.os, k.tape, k.output, k.size, fun i hi _ => k.block i hi⟩ (.inr (by simp [Value.ownBlock]))⟩
theorem arr_at (d : Array Sn) (i : Nat) (h : i < d.size) : d.toList[i]? = some d[i]! := by
  rw [Array.getElem?_toList, getElem!_pos d i h, Array.getElem?_eq_getElem h]
theorem lessA {w : World} {base g N cap : Nat} {d : Array Sn} (h : IsA w base g N cap d) (i j : Nat) (hi : i < N) (hj : j < N) :
    Calls Try.prog 80 #[.slice (some ⟨g, 0, none⟩) N cap, .int .i64 (i : Int), .int .i64 (j : Int)] w fun e w' => e = .returned (.bool (aheadB d[i]! d[j]!)) ∧ Below w.heap.size w w' := by
  have hs := h.size
  have e : d.toList.length = N := by rw [Array.length_toList]; exact hs
  have := less_any (l := d.toList) (by rw [e]; exact h.own) i j d[i]! d[j]! (arr_at d i (by omega)) (arr_at d j (by omega))
  rw [e] at this
  exact this
theorem swapA {w : World} {base g N cap : Nat} {d : Array Sn} (h : IsA w base g N cap d) (i j : Nat) (hi : i < N) (hj : j < N) :
    Calls Try.prog 81 #[.slice (some ⟨g, 0, none⟩) N cap, .int .i64 (i : Int), .int .i64 (j : Int)] w fun e w' => e = .returned (.tuple #[]) ∧ IsA w' base g N cap (Go.Sort.swp d i j) ∧ Kp [g] w w' := by
  have hs := h.size
  have e : d.toList.length = N := by rw [Array.length_toList]; exact hs
  have := swap_any (l := d.toList) (by rw [e]; exact h.own) i j d[i]! d[j]! (arr_at d i (by omega)) (arr_at d j (by omega))
  rw [e] at this
  refine this.mono (fun e' w' hh => ⟨hh.1, ⟨by unfold Go.Sort.swp; rw [Array.size_setIfInBounds, Array.size_setIfInBounds]; exact hs, ?_⟩, hh.2.2⟩)
  have e2 : (Go.Sort.swp d i j).toList = (d.toList.set i d[j]!).set j d[i]! := by unfold Go.Sort.swp; rw [Array.toList_setIfInBounds, Array.toList_setIfInBounds]
  rw [e2]
  exact hh.2.1
theorem swp_size (d : Array Sn) (i j : Nat) : (Go.Sort.swp d i j).size = d.size := by unfold Go.Sort.swp; rw [Array.size_setIfInBounds, Array.size_setIfInBounds]
#print axioms lessA
#print axioms swapA
theorem insInner_stop (a j : Nat) (d : Array Sn) (h : ¬ a < j) : Go.Sort.insInner aheadB a j d = d := by
  cases j with
  | zero => rfl
  | succ k => unfold Go.Sort.insInner; rw [if_neg (by simp; omega)]
theorem insInner_not (a k : Nat) (d : Array Sn) (h : aheadB d[k + 1]! d[k]! = false) : Go.Sort.insInner aheadB a (k + 1) d = d := by
  unfold Go.Sort.insInner; rw [if_neg (by simp [h])]
theorem insInner_go (a k : Nat) (d : Array Sn) (h : aheadB d[k + 1]! d[k]! = true) (ha : a < k + 1) : Go.Sort.insInner aheadB a (k + 1) d = Go.Sort.insInner aheadB a k (Go.Sort.swp d (k + 1) k) := by
  conv => lhs; unfold Go.Sort.insInner
  rw [if_pos (by simp [h]; omega)]
theorem insOuter_stop (a b i : Nat) (d : Array Sn) (h : ¬ i < b) : Go.Sort.insOuter aheadB a b i d = d := by
  unfold Go.Sort.insOuter; rw [if_neg h]
theorem insOuter_go (a b i : Nat) (d : Array Sn) (h : i < b) : Go.Sort.insOuter aheadB a b i d = Go.Sort.insOuter aheadB a b (i + 1) (Go.Sort.insInner aheadB a i d) := by
  conv => lhs; unfold Go.Sort.insOuter
  rw [if_pos h]

set_option linter.unusedSimpArgs false in
set_option maxHeartbeats 4000000 in
set_option maxRecDepth 100000 in
theorem insertionSort_any {w : World} {base g N cap : Nat} {d : Array Sn} (h : IsA w base g N cap d) (a b : Nat) (hab : a ≤ b) (hb : b ≤ N) (hN : N ≤ 1000000) :
    Calls Try.prog 49 #[.iface 59 (.agg #[.slice (some ⟨g, 0, none⟩) N cap]), .int .i64 (a : Int), .int .i64 (b : Int)] w fun e w' => e = .returned (.tuple #[]) ∧ IsA w' base g N cap (Go.Sort.insertionSort aheadB d a b) ∧ Kp [g] w w' := by
  obtain ⟨T, hT⟩ : ∃ T, Hid (T = Go.Sort.insertionSort aheadB d a b) := ⟨_, rfl⟩
  rw [← hT.out]
  have wa : IntKind.i64.wrap ((a : Int) + 1) = ((a + 1 : Nat) : Int) := by rw [IntKind.wrap_i64]; omega
  have INI : Hid (∃ (i : Nat) (d' : Array Sn), Value.int .i64 ((a + 1 : Nat) : Int) = .int .i64 (i : Int) ∧ a + 1 ≤ i ∧ i ≤ N + 1 ∧ Go.Sort.insOuter aheadB a b i d' = T ∧ IsA w base g N cap d' ∧ Kp [g] w w) := ⟨a + 1, d, rfl, Nat.le_refl _, by omega, by rw [hT.out]; rfl, h, Kp.refl _ _⟩
  obtain ⟨A1, hA1⟩ : ∃ A1, Hid (A1 = a + 1) := ⟨_, rfl⟩
  rw [← hA1.out] at wa INI
  clear h hT
  go_enter Try.func49, Try.ntmps49
  go_wp2_with fail
  go_loopw [6] (fun u wr => ∃ (i : Nat) (d' : Array Sn), u = .int .i64 (i : Int) ∧ a + 1 ≤ i ∧ i ≤ N + 1 ∧ Go.Sort.insOuter aheadB a b i d' = T ∧ IsA wr base g N cap d' ∧ Kp [g] w wr) (fun u _ => b - (intOf u).toNat)
  case atStart =>
    obtain ⟨i, d', e1, e2, e3, e4, e5, e6⟩ := INI.out
    exact ⟨i, d', e1, by have := hA1.out; omega, e3, e4, e5, e6⟩
  case round =>
    clear INI
    obtain ⟨i, d', rfl, hi, hi2, ht, hA, hK⟩ := hrel
    by_cases hlt : i < b
    rotate_left
    · have gi : ¬ (i : Int) < (b : Int) := by omega
      rw [insOuter_stop a b i d' hlt] at ht
      subst ht
      have RES : Hid _ := hA
      clear hA
      go_wp2_with fail
      go_end0
      exact ⟨rfl, RES.out, hK⟩
    have gi : (i : Int) < (b : Int) := by omega
    rw [insOuter_go a b i d' hlt] at ht
    have wi : IntKind.i64.wrap ((i : Int) + 1) = ((i + 1 : Nat) : Int) := by rw [IntKind.wrap_i64]; omega
    obtain ⟨I, hI⟩ : ∃ I, Hid (I = Go.Sort.insInner aheadB a i d') := ⟨_, rfl⟩
    rw [← hI.out] at ht
    have HT : Hid (Go.Sort.insOuter aheadB a b (i + 1) I = T) := ht
    have INI : Hid (∃ (j : Nat) (e : Array Sn), Value.int .i64 (i : Int) = .int .i64 (j : Int) ∧ j ≤ i ∧ Go.Sort.insInner aheadB a j e = I ∧ IsA wr base g N cap e ∧ Kp [g] w wr) := ⟨i, d', rfl, Nat.le_refl _, hI.out.symm, hA, hK⟩
    clear ht hA hK hI
    go_wp2_with fail
    go_loopw [7] (fun u vr => ∃ (j : Nat) (e : Array Sn), u = .int .i64 (j : Int) ∧ j ≤ i ∧ Go.Sort.insInner aheadB a j e = I ∧ IsA vr base g N cap e ∧ Kp [g] w vr) (fun u _ => (intOf u).toNat)
    case atStart => exact INI.out
    case round =>
      clear INI
      obtain ⟨j, e, rfl, hj, he, hA, hK⟩ := hrel
      by_cases haj : a < j
      rotate_left
      · have gj : ¬ (a : Int) < (j : Int) := by omega
        rw [insInner_stop a j e haj] at he
        subst he
        have RES : Hid _ := hA
        clear hA
        go_wp2_with fail
        exact ⟨⟨i + 1, e, rfl, by omega, by omega, HT.out, RES.out, hK⟩, by simp [intOf]; omega⟩
      have gj : (a : Int) < (j : Int) := by omega
      obtain ⟨k, rfl⟩ : ∃ k, j = k + 1 := ⟨j - 1, by omega⟩
      obtain ⟨J, hJ⟩ : ∃ J, Hid (J = k + 1) := ⟨_, rfl⟩
      have wj : IntKind.i64.wrap ((J : Int) - 1) = (k : Int) := by rw [hJ.out, IntKind.wrap_i64]; omega
      have L1 := lessA hA (k + 1) k (by omega) (by omega)
      have M1 := meth_lessV 234 (by decide) (some ⟨g, 0, none⟩) N cap
      cases hl : aheadB e[k + 1]! e[k]! with
      | false =>
        rw [hl] at L1
        rw [insInner_not a k e hl] at he
        subst he
        have RES : Hid (∀ z, Below wr.heap.size wr z → IsA z base g N cap e ∧ Kp [g] w z) := fun z hz => ⟨hA.next hz, hK.trans (Kp.of hz)⟩
        rw [← hJ.out] at L1 gj ⊢
        clear hA hK hl
        go_wp2_with fail
        refine L1.mono ?_
        rintro e z ⟨rfl, bz⟩
        clear L1 M1
        have R2 : Hid _ := RES.out z bz
        go_wp2_with fail
        exact ⟨⟨i + 1, _, rfl, by omega, by omega, HT.out, R2.out⟩, by simp [intOf]; omega⟩
      | true =>
        rw [hl] at L1
        rw [insInner_go a k e hl (by omega)] at he
        have HE : Hid (Go.Sort.insInner aheadB a k (Go.Sort.swp e (k + 1) k) = I) := he
        have HA : Hid (IsA wr base g N cap e) := hA
        have SWL : Hid (∀ z, IsA z base g N cap e → Calls Try.prog 81 #[.slice (some ⟨g, 0, none⟩) N cap, .int .i64 (J : Int), .int .i64 (k : Int)] z fun e' w' => e' = .returned (.tuple #[]) ∧ IsA w' base g N cap (Go.Sort.swp e (k + 1) k) ∧ Kp [g] z w') := fun z hz => by
          have := swapA hz (k + 1) k (by omega) (by omega)
          rw [← hJ.out] at this
          rw [hJ.out] at this ⊢
          exact this
        rw [← hJ.out] at L1 gj ⊢
        clear hA hl he
        go_wp2_with fail
        refine L1.mono ?_
        rintro e2 z ⟨rfl, bz⟩
        clear L1 M1
        have SW := SWL.out z (HA.out.next bz)
        have M2 := meth_swapV 234 (by decide) (some ⟨g, 0, none⟩) N cap
        clear SWL
        go_wp2_with fail
        refine SW.mono ?_
        rintro e2 z2 ⟨rfl, A2, k2⟩
        clear SW M2
        have R2 : Hid (IsA z2 base g N cap (Go.Sort.swp e (k + 1) k) ∧ Kp [g] w z2) := ⟨A2, (hK.trans (Kp.of bz)).trans k2⟩
        clear A2 k2 bz HA
        go_wp2_with fail
        exact ⟨⟨k, _, rfl, by omega, HE.out, R2.out⟩, by have := hJ.out; simp [intOf]; omega⟩
#print axioms insertionSort_any
end Go.Proofs.Ytndlpjfofjikeaa
