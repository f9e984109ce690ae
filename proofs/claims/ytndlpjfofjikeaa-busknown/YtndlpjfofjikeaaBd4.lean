/-
  The walks of the heap's down and Pop, at any number that wait.
-/
import Derived.Test.YtndlpjfofjikeaaBu4
namespace Go.Proofs.Ytndlpjfofjikeaa
open Go.RowKit

/-- A heap from a place on, up to another. -/
def HeapB (l : List Sn) (n b : Nat) : Prop := ∀ k, 0 < k → k < n → b ≤ (k - 1) / 2 → le (at_ l ((k - 1) / 2)) (at_ l k)
/-- The same, but for one that may be greater than those below it. -/
structure DownOk (l : List Sn) (n b i : Nat) : Prop where
  other : ∀ k, 0 < k → k < n → b ≤ (k - 1) / 2 → (k - 1) / 2 ≠ i → le (at_ l ((k - 1) / 2)) (at_ l k)
  child : ∀ k, 0 < k → k < n → (k - 1) / 2 = i → 0 < i → b ≤ (i - 1) / 2 → le (at_ l ((i - 1) / 2)) (at_ l k)
theorem DownOk.stop {l : List Sn} {n b i : Nat} (h : DownOk l n b i) (hs : ∀ k, 0 < k → k < n → (k - 1) / 2 = i → le (at_ l i) (at_ l k)) : HeapB l n b := fun k h0 hk hb => by
  by_cases e : (k - 1) / 2 = i
  · rw [e]; exact hs k h0 hk e
  · exact h.other k h0 hk hb e
theorem DownOk.go {l : List Sn} {n b i j : Nat} (h : DownOk l n b i) (hn : n ≤ l.length) (hbi : b ≤ i) (j0 : 0 < j) (hj : j < n) (hji : (j - 1) / 2 = i) (ha : aheadB (at_ l j) (at_ l i) = true)
    (hm : ∀ k, 0 < k → k < n → (k - 1) / 2 = i → le (at_ l j) (at_ l k)) : DownOk (swp l i j) n b j := by
  have S := fun k => swp_at l i j k (by omega) (by omega)
  constructor
  · intro k k0 kn kb kj
    rw [S, S]
    by_cases e : k = j
    · subst e
      rw [hji, if_neg (by omega), if_pos rfl, if_pos rfl]
      exact le_of_ahead ha
    · rw [if_neg kj, if_neg e]
      by_cases e2 : (k - 1) / 2 = i
      · rw [if_pos e2, if_neg (by omega)]
        exact hm k k0 kn e2
      · rw [if_neg e2]
        by_cases e3 : k = i
        · rw [if_pos e3]
          have := h.child j j0 hj hji (by omega) (by rw [← e3]; exact kb)
          rw [← e3] at this
          exact this
        · rw [if_neg e3]
          exact h.other k k0 kn kb e2
  · intro k k0 kn kj _ kb
    rw [S, S, hji, if_neg (by omega), if_pos rfl, if_neg (by omega), if_neg (by omega)]
    have := h.other k k0 kn (by omega) (by omega)
    rw [kj] at this
    exact this

set_option linter.unusedSimpArgs false in
set_option maxHeartbeats 4000000 in
set_option maxRecDepth 100000 in
theorem down_any {w : World} {base p g cap N : Nat} {l : List Sn} {ct : Int} (h : IsB w base p (.slice (some ⟨g, 0, none⟩) N cap) l ct) (hN : l.length = N) (i0 n b : Nat) (hn : n ≤ N) (hl : N ≤ 1000000) (hi0 : i0 ≤ 1000000) (hb0 : b ≤ i0) (hu : DownOk l n b i0) :
    Calls Try.prog 42 #[.iface 69 (.pointer (some ⟨p, 0, none⟩)), .int .i64 (i0 : Int), .int .i64 (n : Int)] w fun e w' => (∃ bb, e = .returned (.bool bb)) ∧ (∃ l', l'.length = N ∧ l'.Perm l ∧ HeapB l' n b ∧ (∀ k, n ≤ k → at_ l' k = at_ l k) ∧ IsB w' base p (.slice (some ⟨g, 0, none⟩) N cap) l' ct) ∧ Kp [g] w w' := by
  have INI : Hid (∃ (k : Nat) (m : List Sn), Value.int .i64 (i0 : Int) = .int .i64 (k : Int) ∧ k ≤ 2000000 ∧ b ≤ k ∧ m.length = N ∧ m.Perm l ∧ DownOk m n b k ∧ (∀ q, n ≤ q → at_ m q = at_ l q) ∧ IsB w base p (.slice (some ⟨g, 0, none⟩) N cap) m ct ∧ Kp [g] w w) := ⟨i0, l, rfl, by omega, hb0, hN, List.Perm.refl _, hu, fun _ _ => rfl, h, Kp.refl _ _⟩
  clear h hu hN hb0
  go_enter Try.func42, Try.ntmps42
  go_wp2_with fail
  go_loopw [7] (fun u wr => ∃ (k : Nat) (m : List Sn), u = .int .i64 (k : Int) ∧ k ≤ 2000000 ∧ b ≤ k ∧ m.length = N ∧ m.Perm l ∧ DownOk m n b k ∧ (∀ q, n ≤ q → at_ m q = at_ l q) ∧ IsB wr base p (.slice (some ⟨g, 0, none⟩) N cap) m ct ∧ Kp [g] w wr) (fun u _ => n - (intOf u).toNat)
  case atStart => exact INI.out
  case round =>
    clear INI
    obtain ⟨k, m, rfl, hk, hbk, hm, hp, hu, htl, hB, hK⟩ := hrel
    have HB : Hid (IsB wr base p (.slice (some ⟨g, 0, none⟩) N cap) m ct) := hB
    have HU : Hid (DownOk m n b k) := hu
    have HR : Hid (m.Perm l ∧ ∀ q, n ≤ q → at_ m q = at_ l q) := ⟨hp, htl⟩
    have HM : Hid (m.length = N) := hm
    clear hB hu hp htl hm
    obtain ⟨A, hA⟩ : ∃ A, Hid (A = 2 * k) := ⟨_, rfl⟩
    obtain ⟨J1, hJ1⟩ : ∃ J, Hid (J = 2 * k + 1) := ⟨_, rfl⟩
    obtain ⟨J2, hJ2⟩ : ∃ J, Hid (J = 2 * k + 2) := ⟨_, rfl⟩
    have wA : IntKind.i64.wrap (2 * (k : Int)) = (A : Int) := by rw [hA.out, IntKind.wrap_i64]; omega
    have wB : IntKind.i64.wrap ((A : Int) + 1) = (J1 : Int) := by rw [hA.out, hJ1.out, IntKind.wrap_i64]; omega
    have wC : IntKind.i64.wrap ((J1 : Int) + 1) = (J2 : Int) := by rw [hJ1.out, hJ2.out, IntKind.wrap_i64]; omega
    have DONE : Hid (HeapB m n b → ∀ z, Kp [g] wr z → IsB z base p (.slice (some ⟨g, 0, none⟩) N cap) m ct → (∃ l', l'.length = N ∧ l'.Perm l ∧ HeapB l' n b ∧ (∀ k, n ≤ k → at_ l' k = at_ l k) ∧ IsB z base p (.slice (some ⟨g, 0, none⟩) N cap) l' ct) ∧ Kp [g] w z) := fun hh z kz hz => ⟨⟨m, HM.out, HR.out.1, hh, HR.out.2, hz⟩, hK.trans kz⟩
    by_cases g1 : n ≤ J1
    · have g1' : (n : Int) ≤ (J1 : Int) := by omega
      have HH : HeapB m n b := HU.out.stop (fun c c0 cn ck => by have := hJ1.out; omega)
      have RR : Hid _ := DONE.out HH wr (Kp.refl _ _) HB.out
      clear HB HU HR HM DONE wC HH
      go_wp2_with fail
      go_ret
      exact ⟨⟨_, rfl⟩, RR.out⟩
    have g1' : ¬ (n : Int) ≤ (J1 : Int) := by omega
    have g1n : ¬ (J1 : Int) < 0 := by omega
    have LES : Hid (∀ z (x y : Nat), IsB z base p (.slice (some ⟨g, 0, none⟩) N cap) m ct → x < N → y < N → Calls Try.prog 80 #[.slice (some ⟨g, 0, none⟩) N cap, .int .i64 (x : Int), .int .i64 (y : Int)] z fun e w' => e = .returned (.bool (aheadB (at_ m x) (at_ m y))) ∧ Below z.heap.size z w') := fun z x y hz hx hy => by
      have := less_any (l := m) (by have := hz.own; rw [← HM.out] at this; exact this) x y (at_ m x) (at_ m y) (at_some m _ (by rw [HM.out]; exact hx)) (at_some m _ (by rw [HM.out]; exact hy))
      rw [HM.out] at this
      exact this
    have SWL : Hid (∀ z (x y : Nat), IsB z base p (.slice (some ⟨g, 0, none⟩) N cap) m ct → x < N → y < N → Calls Try.prog 81 #[.slice (some ⟨g, 0, none⟩) N cap, .int .i64 (x : Int), .int .i64 (y : Int)] z fun e w' => e = .returned (.tuple #[]) ∧ IsL w' base (.slice (some ⟨g, 0, none⟩) N cap) (swp m x y) ∧ Kp [g] z w') := fun z x y hz hx hy => by
      have := swap_any (l := m) (by have := hz.own; rw [← HM.out] at this; exact this) x y (at_ m x) (at_ m y) (at_some m _ (by rw [HM.out]; exact hx)) (at_some m _ (by rw [HM.out]; exact hy))
      rw [HM.out] at this
      exact this
    have TAILF : Hid (∀ j, 0 < j → j < n → (j - 1) / 2 = k → (∀ c, 0 < c → c < n → (c - 1) / 2 = k → le (at_ m j) (at_ m c)) → (aheadB (at_ m j) (at_ m k) = false → HeapB m n b) ∧ (aheadB (at_ m j) (at_ m k) = true → (swp m k j).length = N ∧ (swp m k j).Perm l ∧ DownOk (swp m k j) n b j ∧ ∀ q, n ≤ q → at_ (swp m k j) q = at_ l q)) := fun j j0 jn jk jm => by
      have hmn := HM.out
      refine ⟨fun e => HU.out.stop (fun c c0 cn ck => le_trans e (jm c c0 cn ck)), fun e => ⟨by rw [swp_len]; exact hmn, (swp_perm m _ _ (by omega) (by omega)).trans HR.out.1, HU.out.go (by omega) hbk j0 jn jk e jm, fun q hq => ?_⟩⟩
      rw [swp_at m k j q (by omega) (by omega), if_neg (by omega), if_neg (by omega)]
      exact HR.out.2 q hq
    have kN : k < N := by have := hJ1.out; omega
    clear HU
    by_cases g2 : J2 < n
    · have g2' : (J2 : Int) < (n : Int) := by omega
      have L1 := LES.out wr J2 J1 HB.out (by omega) (by omega)
      have M1 := meth_less 234 (by decide) p wr _ HB.out.c0
      cases hb1 : aheadB (at_ m J2) (at_ m J1) with
      | true =>
        rw [hb1] at L1
        have MJ : Hid (∀ c, 0 < c → c < n → (c - 1) / 2 = k → le (at_ m J2) (at_ m c)) := fun c c0 cn ck => by
          have q1 := hJ1.out
          have q2 := hJ2.out
          have : c = J1 ∨ c = J2 := by omega
          rcases this with rfl | rfl
          · exact le_of_ahead hb1
          · exact le_refl _
        clear hb1
        go_wp2_with fail
        refine L1.mono ?_
        rintro e z1 ⟨rfl, bz1⟩
        clear L1 M1
        have HBW : Hid (IsB z1 base p (.slice (some ⟨g, 0, none⟩) N cap) m ct) := HB.out.next bz1
        have KW : Hid (Kp [g] wr z1) := Kp.of bz1
        clear bz1
        obtain ⟨TF, TT⟩ := TAILF.out J2 (by have := hJ1.out; have := hJ2.out; omega) (by omega) (by have := hJ1.out; have := hJ2.out; omega) MJ.out
        have TFH : Hid _ := TF
        have TTH : Hid _ := TT
        clear TF TT
        have L2 := LES.out z1 J2 k HBW.out (by omega) kN
        have M3 := meth_less 234 (by decide) p z1 _ HBW.out.c0
        cases hb2 : aheadB (at_ m J2) (at_ m k) with
        | false =>
          rw [hb2] at L2
          have HH := TFH.out hb2
          have FIN : Hid (∀ z, Below z1.heap.size z1 z → (∃ l', l'.length = N ∧ l'.Perm l ∧ HeapB l' n b ∧ (∀ k, n ≤ k → at_ l' k = at_ l k) ∧ IsB z base p (.slice (some ⟨g, 0, none⟩) N cap) l' ct) ∧ Kp [g] w z) := fun z hz => DONE.out HH z (KW.out.trans (Kp.of hz)) (HBW.out.next hz)
          clear DONE TAILF TFH TTH LES SWL MJ HR HB HBW KW HH
          go_wp2_with fail
          refine L2.mono ?_
          rintro e z9 ⟨rfl, bz9⟩
          clear L2 M3
          go_wp2_with fail
          go_ret
          exact ⟨⟨_, rfl⟩, FIN.out z9 bz9⟩
        | true =>
          rw [hb2] at L2
          obtain ⟨t1, t2, t3, t4⟩ := TTH.out hb2
          have TQ4 : Hid ((swp m k J2).length = N ∧ (swp m k J2).Perm l ∧ DownOk (swp m k J2) n b J2 ∧ ∀ q, n ≤ q → at_ (swp m k J2) q = at_ l q) := ⟨t1, t2, t3, t4⟩
          clear DONE TAILF TFH TTH LES MJ HR HB t1 t2 t3 t4
          go_wp2_with fail
          refine L2.mono ?_
          rintro e z9 ⟨rfl, bz9⟩
          clear L2 M3
          have H9 := HBW.out.next bz9
          have SW := SWL.out z9 k J2 H9 kN (by omega)
          have M4 := meth_swap 234 (by decide) p z9 _ H9.c0
          have HZ : Hid _ := H9
          have K9 : Hid (Kp [g] w z9) := hK.trans (KW.out.trans (Kp.of bz9))
          clear H9 SWL bz9 HBW KW
          go_wp2_with fail
          refine SW.mono ?_
          rintro e z8 ⟨rfl, L8, k8⟩
          clear SW M4
          have RES8 : Hid (IsB z8 base p (.slice (some ⟨g, 0, none⟩) N cap) (swp m k J2) ct ∧ Kp [g] w z8) := ⟨HZ.out.own' k8 L8, K9.out.trans k8⟩
          clear L8 k8 HZ K9
          go_wp2_with fail
          have q1 := hJ1.out
          have q2 := hJ2.out
          exact ⟨⟨J2, swp m k J2, rfl, by omega, by omega, TQ4.out.1, TQ4.out.2.1, TQ4.out.2.2.1, TQ4.out.2.2.2, RES8.out⟩, by simp [intOf]; omega⟩
      | false =>
        rw [hb1] at L1
        have MJ : Hid (∀ c, 0 < c → c < n → (c - 1) / 2 = k → le (at_ m J1) (at_ m c)) := fun c c0 cn ck => by
          have q1 := hJ1.out
          have q2 := hJ2.out
          have : c = J1 ∨ c = J2 := by omega
          rcases this with rfl | rfl
          · exact le_refl _
          · exact hb1
        clear hb1
        go_wp2_with fail
        refine L1.mono ?_
        rintro e z1 ⟨rfl, bz1⟩
        clear L1 M1
        have HBW : Hid (IsB z1 base p (.slice (some ⟨g, 0, none⟩) N cap) m ct) := HB.out.next bz1
        have KW : Hid (Kp [g] wr z1) := Kp.of bz1
        clear bz1
        obtain ⟨TF, TT⟩ := TAILF.out J1 (by have := hJ1.out; have := hJ2.out; omega) (by omega) (by have := hJ1.out; have := hJ2.out; omega) MJ.out
        have TFH : Hid _ := TF
        have TTH : Hid _ := TT
        clear TF TT
        have L2 := LES.out z1 J1 k HBW.out (by omega) kN
        have M3 := meth_less 234 (by decide) p z1 _ HBW.out.c0
        cases hb2 : aheadB (at_ m J1) (at_ m k) with
        | false =>
          rw [hb2] at L2
          have HH := TFH.out hb2
          have FIN : Hid (∀ z, Below z1.heap.size z1 z → (∃ l', l'.length = N ∧ l'.Perm l ∧ HeapB l' n b ∧ (∀ k, n ≤ k → at_ l' k = at_ l k) ∧ IsB z base p (.slice (some ⟨g, 0, none⟩) N cap) l' ct) ∧ Kp [g] w z) := fun z hz => DONE.out HH z (KW.out.trans (Kp.of hz)) (HBW.out.next hz)
          clear DONE TAILF TFH TTH LES SWL MJ HR HB HBW KW HH
          go_wp2_with fail
          refine L2.mono ?_
          rintro e z9 ⟨rfl, bz9⟩
          clear L2 M3
          go_wp2_with fail
          go_ret
          exact ⟨⟨_, rfl⟩, FIN.out z9 bz9⟩
        | true =>
          rw [hb2] at L2
          obtain ⟨t1, t2, t3, t4⟩ := TTH.out hb2
          have TQ4 : Hid ((swp m k J1).length = N ∧ (swp m k J1).Perm l ∧ DownOk (swp m k J1) n b J1 ∧ ∀ q, n ≤ q → at_ (swp m k J1) q = at_ l q) := ⟨t1, t2, t3, t4⟩
          clear DONE TAILF TFH TTH LES MJ HR HB t1 t2 t3 t4
          go_wp2_with fail
          refine L2.mono ?_
          rintro e z9 ⟨rfl, bz9⟩
          clear L2 M3
          have H9 := HBW.out.next bz9
          have SW := SWL.out z9 k J1 H9 kN (by omega)
          have M4 := meth_swap 234 (by decide) p z9 _ H9.c0
          have HZ : Hid _ := H9
          have K9 : Hid (Kp [g] w z9) := hK.trans (KW.out.trans (Kp.of bz9))
          clear H9 SWL bz9 HBW KW
          go_wp2_with fail
          refine SW.mono ?_
          rintro e z8 ⟨rfl, L8, k8⟩
          clear SW M4
          have RES8 : Hid (IsB z8 base p (.slice (some ⟨g, 0, none⟩) N cap) (swp m k J1) ct ∧ Kp [g] w z8) := ⟨HZ.out.own' k8 L8, K9.out.trans k8⟩
          clear L8 k8 HZ K9
          go_wp2_with fail
          have q1 := hJ1.out
          have q2 := hJ2.out
          exact ⟨⟨J1, swp m k J1, rfl, by omega, by omega, TQ4.out.1, TQ4.out.2.1, TQ4.out.2.2.1, TQ4.out.2.2.2, RES8.out⟩, by simp [intOf]; omega⟩
    · have g2' : ¬ (J2 : Int) < (n : Int) := by omega
      have MJ : Hid (∀ c, 0 < c → c < n → (c - 1) / 2 = k → le (at_ m J1) (at_ m c)) := fun c c0 cn ck => by
        have q1 := hJ1.out
        have q2 := hJ2.out
        have : c = J1 := by omega
        subst this
        exact le_refl _
      have HBW : Hid (IsB wr base p (.slice (some ⟨g, 0, none⟩) N cap) m ct) := HB.out
      have KW : Hid (Kp [g] wr wr) := Kp.refl _ _
      obtain ⟨TF, TT⟩ := TAILF.out J1 (by have := hJ1.out; have := hJ2.out; omega) (by omega) (by have := hJ1.out; have := hJ2.out; omega) MJ.out
      have TFH : Hid _ := TF
      have TTH : Hid _ := TT
      clear TF TT
      have L2 := LES.out wr J1 k HBW.out (by omega) kN
      have M3 := meth_less 234 (by decide) p wr _ HBW.out.c0
      cases hb2 : aheadB (at_ m J1) (at_ m k) with
      | false =>
        rw [hb2] at L2
        have HH := TFH.out hb2
        have FIN : Hid (∀ z, Below wr.heap.size wr z → (∃ l', l'.length = N ∧ l'.Perm l ∧ HeapB l' n b ∧ (∀ k, n ≤ k → at_ l' k = at_ l k) ∧ IsB z base p (.slice (some ⟨g, 0, none⟩) N cap) l' ct) ∧ Kp [g] w z) := fun z hz => DONE.out HH z (KW.out.trans (Kp.of hz)) (HBW.out.next hz)
        clear DONE TAILF TFH TTH LES SWL MJ HR HB HBW KW HH
        go_wp2_with fail
        refine L2.mono ?_
        rintro e z9 ⟨rfl, bz9⟩
        clear L2 M3
        go_wp2_with fail
        go_ret
        exact ⟨⟨_, rfl⟩, FIN.out z9 bz9⟩
      | true =>
        rw [hb2] at L2
        obtain ⟨t1, t2, t3, t4⟩ := TTH.out hb2
        have TQ4 : Hid ((swp m k J1).length = N ∧ (swp m k J1).Perm l ∧ DownOk (swp m k J1) n b J1 ∧ ∀ q, n ≤ q → at_ (swp m k J1) q = at_ l q) := ⟨t1, t2, t3, t4⟩
        clear DONE TAILF TFH TTH LES MJ HR HB t1 t2 t3 t4
        go_wp2_with fail
        refine L2.mono ?_
        rintro e z9 ⟨rfl, bz9⟩
        clear L2 M3
        have H9 := HBW.out.next bz9
        have SW := SWL.out z9 k J1 H9 kN (by omega)
        have M4 := meth_swap 234 (by decide) p z9 _ H9.c0
        have HZ : Hid _ := H9
        have K9 : Hid (Kp [g] w z9) := hK.trans (KW.out.trans (Kp.of bz9))
        clear H9 SWL bz9 HBW KW
        go_wp2_with fail
        refine SW.mono ?_
        rintro e z8 ⟨rfl, L8, k8⟩
        clear SW M4
        have RES8 : Hid (IsB z8 base p (.slice (some ⟨g, 0, none⟩) N cap) (swp m k J1) ct ∧ Kp [g] w z8) := ⟨HZ.out.own' k8 L8, K9.out.trans k8⟩
        clear L8 k8 HZ K9
        go_wp2_with fail
        have q1 := hJ1.out
        have q2 := hJ2.out
        exact ⟨⟨J1, swp m k J1, rfl, by omega, by omega, TQ4.out.1, TQ4.out.2.1, TQ4.out.2.2.1, TQ4.out.2.2.2, RES8.out⟩, by simp [intOf]; omega⟩
#print axioms down_any

theorem downOk_pop {l : List Sn} {n : Nat} (hl : l.length = n + 1) (h : Heap l (n + 1)) : DownOk (swp l 0 n) n 0 0 where
  other := fun k k0 kn _ kp => by
    rw [swp_at l 0 n _ (by omega) (by omega), swp_at l 0 n _ (by omega) (by omega), if_neg (by omega), if_neg kp, if_neg (by omega), if_neg (by omega)]
    exact h k k0 (by omega)
  child := fun k _ _ _ h0 => absurd h0 (by omega)
theorem last_of {l : List Sn} {n : Nat} (hl : l.length = n + 1) : l = l.take n ++ [at_ l n] := by
  have e := at_some l n (by omega)
  have h2 : l.drop n = [at_ l n] := by
    rw [List.drop_eq_getElem_cons (by omega), List.drop_of_length_le (by omega)]
    congr 1
    have := List.getElem?_eq_getElem (l := l) (i := n) (by omega)
    rw [e] at this
    exact (Option.some.inj this).symm
  rw [← h2, List.take_append_drop]
theorem at_take (l : List Sn) (n k : Nat) (h : k < n) : at_ (l.take n) k = at_ l k := by
  unfold at_
  rw [List.getD_eq_getElem?_getD, List.getD_eq_getElem?_getD, List.getElem?_take, if_pos h]

set_option linter.unusedSimpArgs false in
set_option maxHeartbeats 4000000 in
set_option maxRecDepth 100000 in
theorem heapPop_any {w : World} {base p g cap n : Nat} {l : List Sn} {ct : Int} (h : IsB w base p (.slice (some ⟨g, 0, none⟩) (n + 1) cap) l ct) (hN : l.length = n + 1) (hl : n ≤ 100000) (hh : Heap l (n + 1)) :
    Calls Try.prog 33 #[.iface 69 (.pointer (some ⟨p, 0, none⟩))] w fun e w' => e = .returned (.iface 42 (.agg (at_ l 0).A)) ∧ (∃ m, m.length = n ∧ (m ++ [at_ l 0]).Perm l ∧ Heap m n ∧ IsB w' base p (.slice (some ⟨g, 0, none⟩) n cap) m ct) ∧ Kp [p, g] w w' := by
  have M1 := meth_len 234 (by decide) p w _ h.c0
  have HL := len_any (some ⟨g, 0, none⟩) (n + 1) cap w
  have M2 := meth_swap 234 (by decide) p w _ h.c0
  have SWP0 := swap_any (l := l) (by have := h.own; rw [← hN] at this; exact this) 0 n (at_ l 0) (at_ l n) (at_some l 0 (by omega)) (at_some l n (by omega))
  rw [hN] at SWP0
  have SWP : Calls Try.prog 81 #[.slice (some ⟨g, 0, none⟩) (n + 1) cap, .int .i64 0, .int .i64 (n : Int)] w fun e w' => e = .returned (.tuple #[]) ∧ IsL w' base (.slice (some ⟨g, 0, none⟩) (n + 1) cap) (swp l 0 n) ∧ Kp [g] w w' := SWP0
  have HB : Hid (IsB w base p (.slice (some ⟨g, 0, none⟩) (n + 1) cap) l ct) := h
  have DO : Hid (DownOk (swp l 0 n) n 0 0) := downOk_pop hN hh
  have SN : Hid ((swp l 0 n).length = n + 1 ∧ (swp l 0 n).Perm l ∧ at_ (swp l 0 n) n = at_ l 0) := ⟨by rw [swp_len]; exact hN, swp_perm l 0 n (by omega) (by omega), by rw [swp_at l 0 n n (by omega) (by omega), if_pos rfl]⟩
  have wn : IntKind.i64.wrap (((n + 1 : Nat) : Int) - 1) = (n : Int) := by rw [IntKind.wrap_i64]; omega
  obtain ⟨N, hNN⟩ : ∃ N, Hid (N = n + 1) := ⟨_, rfl⟩
  rw [← hNN.out] at M1 HL M2 SWP wn
  clear h hh SWP0 hN
  go_enter Try.func33, Try.ntmps33
  go_wp2_with fail
  refine HL.mono ?_
  rintro e w ⟨rfl, rfl⟩
  clear HL M1
  go_wp2_with fail
  refine SWP.mono ?_
  rintro e z ⟨rfl, Lz, kz⟩
  clear SWP M2
  rw [hNN.out] at Lz
  have Hz : IsB z base p (.slice (some ⟨g, 0, none⟩) (n + 1) cap) (swp l 0 n) ct := HB.out.own' kz Lz
  have DN0 := down_any Hz SN.out.1 0 n 0 (by omega) (by omega) (by omega) (Nat.le_refl _) DO.out
  have DN : Calls Try.prog 42 #[.iface 69 (.pointer (some ⟨p, 0, none⟩)), .int .i64 0, .int .i64 (n : Int)] z fun e w' => (∃ bb, e = .returned (.bool bb)) ∧ (∃ l', l'.length = n + 1 ∧ l'.Perm (swp l 0 n) ∧ HeapB l' n 0 ∧ (∀ k, n ≤ k → at_ l' k = at_ (swp l 0 n) k) ∧ IsB w' base p (.slice (some ⟨g, 0, none⟩) (n + 1) cap) l' ct) ∧ Kp [g] z w' := DN0
  clear Lz Hz HB DN0 DO
  go_wp2_with fail
  refine DN.mono ?_
  rintro e z2 ⟨⟨bb, rfl⟩, ⟨l', e1, e2, e3, e4, H2⟩, k2⟩
  clear DN
  have ex : at_ l' n = at_ l 0 := (e4 n (Nat.le_refl _)).trans SN.out.2.2
  have el : l' = l'.take n ++ [at_ l 0] := by have := last_of e1; rw [ex] at this; exact this
  have tl : (l'.take n).length = n := by rw [List.length_take]; omega
  have PP0 := pop_any (l := l'.take n) (x := at_ l 0) (by rw [tl, ← el]; exact H2) (by rw [tl]; omega)
  rw [tl] at PP0
  have FIN : Hid (∀ z3, IsB z3 base p (.slice (some ⟨g, 0, none⟩) n cap) (l'.take n) ct → ∃ m, m.length = n ∧ (m ++ [at_ l 0]).Perm l ∧ Heap m n ∧ IsB z3 base p (.slice (some ⟨g, 0, none⟩) n cap) m ct) := fun z3 h3 => by
    refine ⟨l'.take n, tl, by rw [← el]; exact e2.trans SN.out.2.1, fun k k0 kn => ?_, h3⟩
    rw [at_take _ _ _ kn, at_take _ _ _ (by omega)]
    exact e3 k k0 kn (by omega)
  have M3 := meth_pop 234 (by decide) p z2
  clear e1 e2 e3 e4 H2 ex el tl SN
  go_wp2_with fail
  refine PP0.mono ?_
  rintro e z3 ⟨rfl, H3, k3⟩
  clear PP0 M3
  have RES : Hid _ := FIN.out z3 H3
  clear FIN H3
  go_wp2_with fail
  go_ret
  exact ⟨rfl, RES.out, ((kz.more (by simp)).trans (k2.more (by simp))).trans (k3.more (by simp))⟩
#print axioms heapPop_any
end Go.Proofs.Ytndlpjfofjikeaa
