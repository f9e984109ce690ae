/-
  The walks of the heap's up and Push, at any number that wait.
-/
import Derived.Test.YtndlpjfofjikeaaBk4
namespace Go.Proofs.Ytndlpjfofjikeaa
open Go.RowKit

theorem par_int (k : Nat) : ((k : Int) - 1).tdiv 2 = (((k - 1) / 2 : Nat) : Int) := by
  cases k with
  | zero => rfl
  | succ n => rw [show ((n + 1 : Nat) : Int) - 1 = (n : Int) from by omega, Int.tdiv_eq_ediv_of_nonneg (by omega)]; simp

set_option linter.unusedSimpArgs false in
set_option maxHeartbeats 4000000 in
set_option maxRecDepth 100000 in
theorem up_any {w : World} {base p g cap N : Nat} {l : List Sn} {ct : Int} (h : IsB w base p (.slice (some ⟨g, 0, none⟩) N cap) l ct) (hN : l.length = N) (j : Nat) (hj : j < N) (hl : N ≤ 1000000) (hu : UpOk l N j) :
    Calls Try.prog 43 #[.iface 69 (.pointer (some ⟨p, 0, none⟩)), .int .i64 (j : Int)] w fun e w' => e = .returned (.tuple #[]) ∧ (∃ l', l'.length = N ∧ l'.Perm l ∧ Heap l' N ∧ IsB w' base p (.slice (some ⟨g, 0, none⟩) N cap) l' ct) ∧ Kp [g] w w' := by
  have INI : Hid (∃ (k : Nat) (m : List Sn), Value.int .i64 (j : Int) = .int .i64 (k : Int) ∧ k < N ∧ m.length = N ∧ m.Perm l ∧ UpOk m N k ∧ IsB w base p (.slice (some ⟨g, 0, none⟩) N cap) m ct ∧ Kp [g] w w) := ⟨j, l, rfl, hj, hN, List.Perm.refl _, hu, h, Kp.refl _ _⟩
  clear h hu hN hj
  go_enter Try.func43, Try.ntmps43
  go_wp2_with fail
  go_loopw [1] (fun u wr => ∃ (k : Nat) (m : List Sn), u = .int .i64 (k : Int) ∧ k < N ∧ m.length = N ∧ m.Perm l ∧ UpOk m N k ∧ IsB wr base p (.slice (some ⟨g, 0, none⟩) N cap) m ct ∧ Kp [g] w wr) (fun u _ => (intOf u).toNat)
  case atStart => exact INI.out
  case round =>
    clear INI
    obtain ⟨k, m, rfl, hk, hm, hp, hu, hB, hK⟩ := hrel
    have HB : Hid (IsB wr base p (.slice (some ⟨g, 0, none⟩) N cap) m ct) := hB
    have HU : Hid (UpOk m N k) := hu
    have HPm : Hid (m.Perm l) := hp
    have HM : Hid (m.length = N) := hm
    clear hB hu hp hm
    have pq := par_int k
    have wk : IntKind.i64.wrap ((k : Int) - 1) = (k : Int) - 1 := by rw [IntKind.wrap_i64]; omega
    rcases Nat.eq_zero_or_pos k with h0 | h0
    · subst h0
      have RES : Hid (∃ l', l'.length = N ∧ l'.Perm l ∧ Heap l' N ∧ IsB wr base p (.slice (some ⟨g, 0, none⟩) N cap) l' ct) := ⟨m, HM.out, HPm.out, HU.out.zero, HB.out⟩
      clear pq wk HB HU HPm HM
      go_wp2_with fail
      go_end0
      exact ⟨rfl, RES.out, hK⟩
    have hIk : (k - 1) / 2 < k := by omega
    have LS0 := less_any (l := m) (by have := HB.out.own; rw [← HM.out] at this; exact this) k ((k - 1) / 2) (at_ m k) (at_ m ((k - 1) / 2)) (at_some m k (by rw [HM.out]; exact hk)) (at_some m _ (by rw [HM.out]; omega))
    rw [HM.out] at LS0
    have STOP : Hid (aheadB (at_ m k) (at_ m ((k - 1) / 2)) = false → Heap m N) := fun e => HU.out.stop e
    have SWL : Hid (∀ z, IsB z base p (.slice (some ⟨g, 0, none⟩) N cap) m ct → Calls Try.prog 81 #[.slice (some ⟨g, 0, none⟩) N cap, .int .i64 (((k - 1) / 2 : Nat) : Int), .int .i64 (k : Int)] z fun e w' => e = .returned (.tuple #[]) ∧ IsL w' base (.slice (some ⟨g, 0, none⟩) N cap) (swp m ((k - 1) / 2) k) ∧ Kp [g] z w') := fun z hz => by
      have := swap_any (l := m) (by have := hz.own; rw [← HM.out] at this; exact this) ((k - 1) / 2) k (at_ m ((k - 1) / 2)) (at_ m k) (at_some m _ (by rw [HM.out]; omega)) (at_some m k (by rw [HM.out]; exact hk))
      rw [HM.out] at this
      exact this
    have NXT : Hid (aheadB (at_ m k) (at_ m ((k - 1) / 2)) = true → (swp m ((k - 1) / 2) k).length = N ∧ (swp m ((k - 1) / 2) k).Perm l ∧ UpOk (swp m ((k - 1) / 2) k) N ((k - 1) / 2)) := fun e => by
      refine ⟨by rw [swp_len]; exact HM.out, (swp_perm m _ _ (by rw [HM.out]; omega) (by rw [HM.out]; exact hk)).trans HPm.out, ?_⟩
      have hu2 := HU.out
      rw [← HM.out] at hu2 ⊢
      exact hu2.go h0 (by rw [HM.out]; exact hk) e
    have M1 := meth_less 234 (by decide) p wr _ HB.out.c0
    obtain ⟨I, hI⟩ : ∃ I, Hid (I = (k - 1) / 2) := ⟨_, rfl⟩
    rw [← hI.out] at pq hIk LS0 STOP SWL NXT
    have wI : IntKind.i64.wrap (I : Int) = (I : Int) := by rw [IntKind.wrap_i64]; omega
    have ne : ((I : Int) == (k : Int)) = false := by simp; omega
    have ne2 : ¬ (I : Int) = (k : Int) := by omega
    cases ha : aheadB (at_ m k) (at_ m I) with
    | false =>
      have RES : Hid (∃ l', l'.length = N ∧ l'.Perm l ∧ Heap l' N ∧ IsB wr base p (.slice (some ⟨g, 0, none⟩) N cap) l' ct) := ⟨m, HM.out, HPm.out, STOP.out ha, HB.out⟩
      rw [ha] at LS0
      have NB : Hid (∀ z, Below wr.heap.size wr z → ∃ l', l'.length = N ∧ l'.Perm l ∧ Heap l' N ∧ IsB z base p (.slice (some ⟨g, 0, none⟩) N cap) l' ct) := fun z hz => by
        obtain ⟨l', e1, e2, e3, e4⟩ := RES.out
        exact ⟨l', e1, e2, e3, e4.next hz⟩
      clear HB HU HPm HM STOP SWL NXT RES ha
      go_wp2_with fail
      refine LS0.mono ?_
      rintro e z ⟨rfl, bz⟩
      clear LS0 M1
      go_wp2_with fail
      go_end0
      exact ⟨rfl, NB.out z bz, hK.trans (Kp.of bz)⟩
    | true =>
      rw [ha] at LS0
      obtain ⟨q1, q2, q3⟩ := NXT.out ha
      have QQ : Hid ((swp m I k).length = N ∧ (swp m I k).Perm l ∧ UpOk (swp m I k) N I) := ⟨q1, q2, q3⟩
      clear HU HPm HM STOP NXT ha q1 q2 q3
      go_wp2_with fail
      refine LS0.mono ?_
      rintro e z ⟨rfl, bz⟩
      clear LS0 M1
      have Hz := HB.out.next bz
      have SW := SWL.out z Hz
      have M2 := meth_swap 234 (by decide) p z _ Hz.c0
      have HZ : Hid _ := Hz
      clear Hz SWL
      go_wp2_with fail
      refine SW.mono ?_
      rintro e z2 ⟨rfl, L2, k2⟩
      clear SW M2
      have RES : Hid (IsB z2 base p (.slice (some ⟨g, 0, none⟩) N cap) (swp m I k) ct ∧ Kp [g] w z2) := ⟨HZ.out.own' k2 L2, (hK.trans (Kp.of bz)).trans k2⟩
      clear L2 k2 bz HZ HB hK
      go_wp2_with fail
      exact ⟨⟨I, swp m I k, rfl, by omega, QQ.out.1, QQ.out.2.1, QQ.out.2.2, RES.out⟩, by simp [intOf]; omega⟩
#print axioms up_any

theorem at_app (l : List Sn) (y : Sn) (k : Nat) (h : k < l.length) : at_ (l ++ [y]) k = at_ l k := by
  unfold at_
  rw [List.getD_eq_getElem?_getD, List.getD_eq_getElem?_getD, List.getElem?_append_left h]
theorem upOk_push {l : List Sn} (y : Sn) (h : Heap l l.length) : UpOk (l ++ [y]) (l.length + 1) l.length where
  other := fun k h0 hk hn => by rw [at_app _ _ _ (by omega), at_app _ _ _ (by omega)]; exact h k h0 (by omega)
  child := fun k h0 hk hc hp => by omega

set_option linter.unusedSimpArgs false in
set_option maxHeartbeats 4000000 in
set_option maxRecDepth 100000 in
theorem heapPush_any {w : World} {base p : Nat} {v : Value} {l : List Sn} {y : Sn} {ct : Int} (h : IsB w base p v l ct) (hb : base ≤ w.heap.size) (hl : l.length ≤ 100000) (hh : Heap l l.length) :
    Calls Try.prog 36 #[.iface 69 (.pointer (some ⟨p, 0, none⟩)), .iface 42 (.agg y.A)] w fun e w' => e = .returned (.tuple #[]) ∧ (∃ v' l', l'.Perm (l ++ [y]) ∧ Heap l' l'.length ∧ IsB w' base p v' l' ct) ∧ Ko p base w w' := by
  have P1 := push_any h y (by omega) hb
  have M1 := meth_push 234 (by decide) p w
  have UO : Hid (UpOk (l ++ [y]) (l.length + 1) l.length) := upOk_push y hh
  clear h hh
  go_enter Try.func36, Try.ntmps36
  go_wp2_with fail
  refine P1.mono ?_
  rintro e z ⟨rfl, ⟨v2, Hz⟩, kz⟩
  clear P1 M1
  obtain ⟨g, cap, rfl⟩ := Hz.own.some (by simp)
  have eL : (l ++ [y]).length = l.length + 1 := by simp
  rw [eL] at Hz
  have UPC := up_any Hz eL l.length (by omega) (by omega) UO.out
  have M2 := meth_len 234 (by decide) p z _ Hz.c0
  have HL := len_any (some ⟨g, 0, none⟩) (l.length + 1) cap z
  have GO := Hz.old
  have wl : IntKind.i64.wrap (((l.length + 1 : Nat) : Int) - 1) = (l.length : Int) := by rw [IntKind.wrap_i64]; omega
  obtain ⟨N, hN⟩ : ∃ N, Hid (N = l.length + 1) := ⟨_, rfl⟩
  rw [← hN.out] at UPC M2 HL wl
  clear Hz UO
  go_wp2_with fail
  refine HL.mono ?_
  rintro e z ⟨rfl, rfl⟩
  clear HL M2
  go_wp2_with fail
  refine UPC.mono ?_
  rintro e z2 ⟨rfl, ⟨l', e1, e2, e3, H2⟩, k2⟩
  have RES : Hid (∃ v' l', l'.Perm (l ++ [y]) ∧ Heap l' l'.length ∧ IsB z2 base p v' l' ct) := ⟨_, l', e2, by rw [e1]; exact e3, H2⟩
  clear UPC H2 e1 e2 e3
  go_wp2_with fail
  go_end0
  exact ⟨rfl, RES.out, kz.trans (Ko.ofKp k2 (by intro i hi; simp at hi; right; omega))⟩
#print axioms heapPush_any
end Go.Proofs.Ytndlpjfofjikeaa
