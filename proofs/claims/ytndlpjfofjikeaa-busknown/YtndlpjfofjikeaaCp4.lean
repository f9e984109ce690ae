/-
  heap.Init; what drop asks of each; the first one that is of a node.
-/
import Derived.Test.YtndlpjfofjikeaaCj4
namespace Go.Proofs.Ytndlpjfofjikeaa
open Go.RowKit

theorem heapB_half (l : List Sn) (N : Nat) : HeapB l N (N / 2) := fun k h0 hk hb => by omega
theorem heapB_down {l : List Sn} {N j : Nat} (h : HeapB l N (j + 1)) : DownOk l N j j := ⟨fun k h0 hk hb hne => h k h0 hk (by omega), fun k h0 hk he hj hb => by omega⟩
theorem heapB_zero {l : List Sn} {N : Nat} (h : HeapB l N 0) : Heap l N := fun k h0 hk => h k h0 hk (Nat.zero_le _)

set_option linter.unusedSimpArgs false in
set_option maxHeartbeats 4000000 in
set_option maxRecDepth 100000 in
theorem init_any {w : World} {base p g cap N : Nat} {l : List Sn} {ct : Int} (h : IsB w base p (.slice (some ⟨g, 0, none⟩) N cap) l ct) (hN : l.length = N) (hl : N ≤ 100000) :
    Calls Try.prog 39 #[.iface 69 (.pointer (some ⟨p, 0, none⟩))] w fun e w' => e = .returned (.tuple #[]) ∧ (∃ l', l'.length = N ∧ l'.Perm l ∧ Heap l' N ∧ IsB w' base p (.slice (some ⟨g, 0, none⟩) N cap) l' ct) ∧ Kp [g] w w' := by
  have M1 := meth_len 234 (by decide) p w _ h.c0
  have HL := len_any (some ⟨g, 0, none⟩) N cap w
  obtain ⟨H, hH⟩ : ∃ H, Hid (H = N / 2) := ⟨_, rfl⟩
  have tq : (N : Int).tdiv 2 = (H : Int) := by rw [hH.out, Int.tdiv_eq_ediv_of_nonneg (by omega)]; omega
  have wq : IntKind.i64.wrap (H : Int) = (H : Int) := by have := hH.out; rw [IntKind.wrap_i64]; omega
  have wh : IntKind.i64.wrap ((H : Int) - 1) = (H : Int) - 1 := by have := hH.out; rw [IntKind.wrap_i64]; omega
  have INI : Hid (∃ (k : Nat) (m : List Sn), Value.int .i64 ((H : Int) - 1) = .int .i64 ((k : Int) - 1) ∧ k ≤ H ∧ m.length = N ∧ m.Perm l ∧ HeapB m N k ∧ IsB w base p (.slice (some ⟨g, 0, none⟩) N cap) m ct ∧ Kp [g] w w) := ⟨H, l, rfl, Nat.le_refl _, hN, List.Perm.refl _, by rw [hH.out]; exact heapB_half l N, h, Kp.refl _ _⟩
  have hHN : H ≤ 100000 := by have := hH.out; omega
  clear h hN
  go_enter Try.func39, Try.ntmps39
  go_wp2_with fail
  refine HL.mono ?_
  rintro e z ⟨rfl, rfl⟩
  clear HL M1
  go_wp2_with fail
  go_loopw [3] (fun u vr => ∃ (k : Nat) (m : List Sn), u = .int .i64 ((k : Int) - 1) ∧ k ≤ H ∧ m.length = N ∧ m.Perm l ∧ HeapB m N k ∧ IsB vr base p (.slice (some ⟨g, 0, none⟩) N cap) m ct ∧ Kp [g] z vr) (fun u _ => (intOf u + 1).toNat)
  case atStart => exact INI.out
  case round =>
    clear INI
    obtain ⟨k, m, rfl, hk, hm, hp, hh, hB, hK⟩ := hrel
    rcases Nat.eq_zero_or_pos k with h0 | h0
    · subst h0
      have RES : Hid (∃ l', l'.length = N ∧ l'.Perm l ∧ Heap l' N ∧ IsB wr base p (.slice (some ⟨g, 0, none⟩) N cap) l' ct) := ⟨m, hm, hp, heapB_zero hh, hB⟩
      have KK : Hid _ := hK
      clear hB hh hp hm hK
      go_wp2_with fail
      first | go_end0 | refine bodyPost_ret (v := .tuple #[]) (by simp [results, Try.results39, go_sem]) rfl ?_
      exact ⟨rfl, RES.out, KK.out⟩
    · obtain ⟨j, hj⟩ : ∃ j, k = j + 1 := ⟨k - 1, by omega⟩
      subst hj
      have e1 : (((j + 1 : Nat) : Int) - 1) = (j : Int) := by omega
      rw [e1]
      have gj : (j : Int) ≥ 0 := by omega
      have gj2 : (0 : Int) ≤ (j : Int) := by omega
      have DN := down_any hB hm j N j (Nat.le_refl _) (by omega) (by omega) (Nat.le_refl _) (heapB_down hh)
      have wj : IntKind.i64.wrap ((j : Int) - 1) = (j : Int) - 1 := by rw [IntKind.wrap_i64]; omega
      have KK : Hid _ := hK
      have HP : Hid _ := hp
      clear hB hh hp hm hK e1
      go_wp2_with fail
      refine DN.mono ?_
      rintro e z2 ⟨⟨bb, rfl⟩, ⟨l', q1, q2, q3, _, q5⟩, k2⟩
      have RES : Hid (l'.length = N ∧ l'.Perm l ∧ HeapB l' N j ∧ IsB z2 base p (.slice (some ⟨g, 0, none⟩) N cap) l' ct ∧ Kp [g] z z2) := ⟨q1, q2.trans HP.out, q3, q5, KK.out.trans k2⟩
      clear DN q1 q2 q3 q5 k2 KK
      go_wp2_with fail
      exact ⟨⟨j, l', rfl, by omega, RES.out⟩, by first | (simp [intOf]; done) | (simp [intOf]; omega)⟩
#print axioms init_any

set_option linter.unusedSimpArgs false in
set_option maxHeartbeats 4000000 in
set_option maxRecDepth 100000 in
theorem init_zero {w : World} {base p cap : Nat} {a : Option Addr} {ct : Int} (h : IsB w base p (.slice a 0 cap) [] ct) :
    Calls Try.prog 39 #[.iface 69 (.pointer (some ⟨p, 0, none⟩))] w fun e w' => e = .returned (.tuple #[]) ∧ w' = w := by
  have M1 := meth_len 234 (by decide) p w _ h.c0
  have HL := len_any a 0 cap w
  clear h
  go_enter Try.func39, Try.ntmps39
  go_wp2_with fail
  refine HL.mono ?_
  rintro e z ⟨rfl, rfl⟩
  clear HL M1
  go_wp2_with fail
  go_loopw [3] (fun u vr => u = .int .i64 (-1) ∧ vr = z) (fun _ _ => 0)
  case atStart => exact ⟨rfl, rfl⟩
  case round =>
    obtain ⟨rfl, rfl⟩ := hrel
    go_wp2_with fail
    first | go_end0 | refine bodyPost_ret (v := .tuple #[]) (by simp [results, Try.results39, go_sem]) rfl ?_
    exact ⟨rfl, rfl⟩
#print axioms init_zero

set_option linter.unusedSimpArgs false in
set_option maxHeartbeats 4000000 in
set_option maxRecDepth 100000 in
theorem drop1_any (x : Sn) (q : Nat) (nd : Int) (w : World) (h : w.cell? ⟨q, 0, none⟩ = some (.int .i64 nd)) : Calls Try.prog 38 #[.agg x.A, .pointer (some ⟨q, 0, none⟩)] w fun e w' => e = .returned (.bool (decide (x.nd = nd))) ∧ Below w.heap.size w w' := by
  have hq : ∀ b, (w.alloc b).cell? ⟨q, 0, none⟩ = some (.int .i64 nd) := fun b => by rw [(Below.al (Below.refl w.heap.size w) b).cell (p := ⟨q, 0, none⟩) (lt_of_cell h)]; exact h
  clear h
  go_enter Try.func38, Try.ntmps38
  go_wp2_with fail
  go_ret
  exact ⟨rfl, Below.al (Below.refl _ _) _⟩
#print axioms drop1_any
end Go.Proofs.Ytndlpjfofjikeaa
