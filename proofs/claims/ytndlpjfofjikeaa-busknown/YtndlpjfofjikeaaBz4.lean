/-
  sort.Sort of any number of what waits; what Waits tells.
-/
import Derived.Test.YtndlpjfofjikeaaBy4
import Derived.Test.YtndlpjfofjikeaaBt4
namespace Go.Proofs.Ytndlpjfofjikeaa
open Go.RowKit

theorem swo : Go.Sort.SWO aheadB where
  irrefl := fun x => le_refl x
  trans := fun x y z h k => by
    rw [ahead_iff] at *
    cases hx : x.r <;> cases hy : y.r <;> cases hz : z.r <;> simp [hx, hy, hz] at * <;> omega
  ntrans := fun x y z h k => le_trans (x := z) (y := y) (z := x) k h
theorem lt_of_cell {w : World} {b o : Nat} {v : Value} (h : w.cell? ⟨b, o, none⟩ = some v) : b < w.heap.size := by
  rcases Nat.lt_or_ge b w.heap.size with k | k
  · exact k
  · unfold World.cell? at h
    rw [show w.heap[(⟨b, o, none⟩ : Addr).block]? = none from Array.getElem?_eq_none k] at h
    cases h
/-- In their order. -/
def InOrder (l : List Sn) : Prop := ∀ i j, i < j → j < l.length → le (at_ l i) (at_ l j)
theorem toList_at (d : Array Sn) (i : Nat) (h : i < d.size) : at_ d.toList i = d[i]! := by
  have := arr_at d i h
  rw [at_some d.toList i (by simpa using h)] at this
  exact Option.some.inj this
theorem sort_facts (d : Array Sn) (n L : Nat) (hn : d.size = n) : (pdB d 0 n L true true).toList.Perm d.toList ∧ InOrder (pdB d 0 n L true true).toList := by
  subst hn
  obtain ⟨⟨h1, _, h2⟩, h3⟩ := Go.Sort.pdq_sorts aheadB swo d 0 d.size L true true (Nat.zero_le _) (Nat.le_refl _) (Or.inl rfl)
  refine ⟨?_, fun i j hij hj => ?_⟩
  · rw [Array.extract_eq_self_of_le (by rw [h1]; exact Nat.le_refl _), Array.extract_eq_self_of_le (Nat.le_refl _)] at h2
    exact h2
  · rw [Array.length_toList] at hj
    rw [toList_at _ i (by omega), toList_at _ j hj]
    exact h3 i j (Nat.zero_le _) hij (by rw [← h1]; exact hj)
theorem small_order (l : List Sn) (h : l.length ≤ 1) : InOrder l := fun i j hij hj => absurd hj (by omega)
theorem bits_small (n : Nat) (h : n ≤ 1000000) : Go.Sort.bitsLen n ≤ 1000 := Nat.le_trans ((Go.Sort.bitsLen_le_iff n 62).2 (by omega)) (by decide)

set_option linter.unusedSimpArgs false in
set_option maxHeartbeats 4000000 in
set_option maxRecDepth 100000 in
theorem sort_any {w : World} {base g N cap : Nat} {d : Array Sn} (h : IsA w base g N cap d) (hN : N ≤ 1000000) :
    Calls Try.prog 40 #[.iface 59 (.agg #[.slice (some ⟨g, 0, none⟩) N cap])] w fun e w' => e = .returned (.tuple #[]) ∧ (∃ d', IsA w' base g N cap d' ∧ d'.toList.Perm d.toList ∧ InOrder d'.toList) ∧ Kp [g] w w' := by
  have M1 := meth_lenV 234 (by decide) (some ⟨g, 0, none⟩) N cap w
  have HL := len_any (some ⟨g, 0, none⟩) N cap w
  by_cases h1 : N ≤ 1
  · have g1 : (N : Int) ≤ 1 := by omega
    have RES : Hid (∃ d', IsA w base g N cap d' ∧ d'.toList.Perm d.toList ∧ InOrder d'.toList) := ⟨d, h, List.Perm.refl _, small_order _ (by rw [Array.length_toList, h.size]; exact h1)⟩
    clear h
    go_enter Try.func40, Try.ntmps40
    go_wp2_with fail
    refine HL.mono ?_
    rintro e w ⟨rfl, rfl⟩
    clear HL M1
    go_wp2_with fail
    first | go_end0 | refine bodyPost_ret (v := .tuple #[]) (by simp [results, Try.results40, go_sem]) rfl ?_
    exact ⟨rfl, RES.out, Kp.refl _ _⟩
  have g1 : ¬ (N : Int) ≤ 1 := by omega
  have LN := len_of N (by omega)
  obtain ⟨B, hB⟩ : ∃ B, Hid (B = Go.Sort.bitsLen N) := ⟨_, rfl⟩
  rw [← hB.out] at LN
  have C := pdqsort_any h 0 N B (Nat.zero_le _) (Nat.le_refl _) hN (by rw [hB.out]; exact bits_small N hN)
  have wu : IntKind.u64.wrap (N : Int) = (N : Int) := by rw [IntKind.wrap_u64]; omega
  have SF := sort_facts d N B h.size
  generalize pdB d 0 N B true true = T at *
  have HS : Hid _ := SF
  clear h SF
  go_enter Try.func40, Try.ntmps40
  go_wp2_with fail
  refine HL.mono ?_
  rintro e w ⟨rfl, rfl⟩
  clear HL M1
  go_wp2_with fail
  refine (LN _).mono ?_
  rintro e w ⟨rfl, rfl⟩
  clear LN
  go_wp2_with fail
  refine C.mono ?_
  rintro e z ⟨rfl, A2, K2⟩
  clear C
  go_wp2_with fail
  first | go_end0 | refine bodyPost_ret (v := .tuple #[]) (by simp [results, Try.results40, go_sem]) rfl ?_
  exact ⟨rfl, ⟨T, A2, HS.out⟩, K2⟩
#print axioms sort_any

set_option linter.unusedSimpArgs false in
set_option maxHeartbeats 4000000 in
set_option maxRecDepth 100000 in
theorem sorted_any {w : World} {base p g cap : Nat} {l : List Sn} {ct : Int} (h : IsB w base p (.slice (some ⟨g, 0, none⟩) l.length cap) l ct) (hl : l ≠ []) (hl2 : l.length ≤ 1000000) :
    Calls Try.prog 29 #[.pointer (some ⟨p, 0, none⟩)] w fun e w' => (∃ g' c' m, e = .returned (.slice (some ⟨g', 0, none⟩) l.length c') ∧ w.heap.size ≤ g' ∧ IsL w' w.heap.size (.slice (some ⟨g', 0, none⟩) l.length c') m ∧ m.Perm l ∧ InOrder m) ∧ Below w.heap.size w w' := by
  have CP := copied_any h hl hl2
  clear h
  obtain ⟨N, hN⟩ : ∃ N, Hid (N = l.length) := ⟨_, rfl⟩
  rw [← hN.out] at CP ⊢
  have hl2 : N ≤ 1000000 := by rw [hN.out]; exact hl2
  go_enter Try.func29, Try.ntmps29
  go_wp2_with fail
  refine CP.mono ?_
  rintro e z ⟨⟨g', c', rfl, hg', Lz⟩, bz⟩
  clear CP
  have A0 : IsA z w.heap.size g' N c' l.toArray := ⟨by rw [hN.out]; simp, Lz⟩
  have SO : Hid (∀ o, Calls Try.prog 40 #[.iface 59 (.agg #[.slice (some ⟨g', 0, none⟩) N c'])] (z.alloc o) fun e w' => e = .returned (.tuple #[]) ∧ (∃ d', IsA w' w.heap.size g' N c' d' ∧ d'.toList.Perm l ∧ InOrder d'.toList) ∧ Kp [g'] (z.alloc o) w') := fun o => by
    have := sort_any (A0.next (Below.al (Below.refl _ _) o)) hl2
    exact this
  have hg2 : g' < z.heap.size := A0.lt.2
  have BZ : Hid (∀ o z2, Kp [g'] (z.alloc o) z2 → Below w.heap.size w z2) := fun o z2 k => Kp.below (Below.al bz o) k (Below.al bz o).size (by intro i hi; simp at hi; omega)
  clear A0 Lz bz
  go_wp2_with fail
  refine (SO.out _).mono ?_
  rintro e z2 ⟨rfl, ⟨d', A2, hp, ho⟩, k2⟩
  have hblk : z2.heap[z.heap.size]? = some (.cells #[.slice (some ⟨g', 0, none⟩) N c'] 59 (0, 0)) := by
    rw [k2.block z.heap.size (by simp) (by simp; omega)]
    exact heap_alloc_last z _
  have x0 : z2.cell? ⟨z.heap.size, 0, none⟩ = some (.slice (some ⟨g', 0, none⟩) N c') := by rw [cell_of_row z2 _ 0 _ _ _ hblk]; rfl
  have RES : Hid _ := A2.own
  have B2 : Hid _ := BZ.out _ z2 k2
  clear SO BZ hblk k2 A2
  go_wp2_with fail
  go_ret
  exact ⟨⟨g', c', d'.toList, rfl, hg', RES.out, hp, ho⟩, B2.out⟩
#print axioms sorted_any

set_option linter.unusedSimpArgs false in
set_option maxHeartbeats 4000000 in
set_option maxRecDepth 100000 in
theorem waits_some {w : World} {base p g cap : Nat} {l : List Sn} {ct : Int} (h : IsB w base p (.slice (some ⟨g, 0, none⟩) l.length cap) l ct) (hl : l ≠ []) (hl2 : l.length ≤ 1000000) :
    Calls Try.prog 17 #[.pointer (some ⟨p, 0, none⟩)] w fun e w' => (∃ g' c' m, e = .returned (.slice (some ⟨g', 0, none⟩) l.length c') ∧ w.heap.size ≤ g' ∧ IsL w' w.heap.size (.slice (some ⟨g', 0, none⟩) l.length c') m ∧ m.Perm l ∧ InOrder m) ∧ Below w.heap.size w w' := by
  have CP := sorted_any h hl hl2
  clear h
  obtain ⟨N, hN⟩ : ∃ N, Hid (N = l.length) := ⟨_, rfl⟩
  rw [← hN.out] at CP ⊢
  have hl2 : N ≤ 1000000 := by rw [hN.out]; exact hl2
  go_enter Try.func17, Try.ntmps17
  go_wp2_with fail
  refine CP.mono ?_
  rintro e z ⟨⟨g', c', m, rfl, hg, hm, hp, ho⟩, bz⟩
  clear CP
  have RES : Hid _ := hm
  clear hm
  go_wp2_with fail
  go_ret
  exact ⟨⟨g', c', m, rfl, hg, RES.out, hp, ho⟩, bz⟩
#print axioms waits_some

set_option linter.unusedSimpArgs false in
set_option maxHeartbeats 4000000 in
set_option maxRecDepth 100000 in
theorem clone_zero (a : Option Addr) (c : Nat) (hc : a = none → c = 0) (w : World) :
    Calls Try.prog 30 #[.slice a 0 c] w fun e w' => (∃ a' c', e = .returned (.slice a' 0 c') ∧ (a' = none → c' = 0)) ∧ Below w.heap.size w w' := by
  cases a with
  | none =>
    rw [hc rfl]
    have NE : ∀ w, (binOp BinOp.eql 57 (.slice none 0 0) (.slice none 0 0)).run Try.prog w = .ok (.bool true) w := fun w => by first | kernel_rfl | simp [binOp, run_underlying Try.underlying57]
    go_enter Try.func30, Try.ntmps30
    go_wp2_with fail
    go_ret
    exact ⟨⟨none, 0, rfl, fun _ => rfl⟩, Below.refl _ _⟩
  | some x =>
    have NE : ∀ w, (binOp BinOp.eql 57 (.slice (some x) 0 c) (.slice none 0 0)).run Try.prog w = .ok (.bool false) w := fun w => by first | kernel_rfl | simp [binOp, run_underlying Try.underlying57]
    go_enter Try.func30, Try.ntmps30
    go_wp2_with fail
    go_ret
    exact ⟨⟨_, _, rfl, fun h => by cases h⟩, Below.al (Below.refl _ _) _⟩
#print axioms clone_zero

set_option linter.unusedSimpArgs false in
set_option maxHeartbeats 4000000 in
set_option maxRecDepth 100000 in
theorem copied_zero {w : World} {p : Nat} (a : Option Addr) (c : Nat) (hc : a = none → c = 0) (h : w.cell? ⟨p, 0, none⟩ = some (.slice a 0 c)) :
    Calls Try.prog 20 #[.pointer (some ⟨p, 0, none⟩)] w fun e w' => (∃ a' c', e = .returned (.agg #[.slice a' 0 c']) ∧ (a' = none → c' = 0)) ∧ Below w.heap.size w w' := by
  have CL := fun w => clone_zero a c hc w
  have hp : p < w.heap.size := lt_of_cell h
  have k0 : ∀ o, (w.alloc o).cell? ⟨p, 0, none⟩ = some (.slice a 0 c) := fun o => by rw [(Below.al (Below.refl w.heap.size w) o).cell (p := ⟨p, 0, none⟩) hp]; exact h
  clear h
  go_enter Try.func20, Try.ntmps20
  go_wp2_with fail
  refine (CL _).mono ?_
  rintro e z ⟨⟨a', c', rfl, ha'⟩, bz⟩
  clear CL k0
  have hblk := (bz.block w.heap.size (by simp)).trans (heap_alloc_last w _)
  have x0 : z.cell? ⟨w.heap.size, 0, none⟩ = some (.slice none 0 0) := by rw [cell_of_row z _ 0 _ _ _ hblk]; rfl
  have xf := frozen_of_row z w.heap.size 0 _ _ hblk
  have RES : Hid (∀ u, Below w.heap.size w (z.setCell ⟨w.heap.size, 0, none⟩ u)) := fun u => (Below.andThen (Below.al (Below.refl _ _) _) bz).setCell (Nat.le_refl _) _
  clear hblk bz
  go_wp2_with fail
  exact bodyPost_ret (v := .agg #[.slice a' 0 c']) (by simp [results, Try.results20, go_sem, x0]) rfl ⟨⟨_, _, rfl, ha'⟩, RES.out _⟩
#print axioms copied_zero

set_option linter.unusedSimpArgs false in
set_option maxHeartbeats 4000000 in
set_option maxRecDepth 100000 in
theorem sort_zero (a : Option Addr) (c : Nat) (w : World) : Calls Try.prog 40 #[.iface 59 (.agg #[.slice a 0 c])] w fun e w' => e = .returned (.tuple #[]) ∧ w' = w := by
  have M1 := meth_lenV 234 (by decide) a 0 c w
  have HL := len_any a 0 c w
  go_enter Try.func40, Try.ntmps40
  go_wp2_with fail
  refine HL.mono ?_
  rintro e w ⟨rfl, rfl⟩
  clear HL M1
  go_wp2_with fail
  first | go_end0 | refine bodyPost_ret (v := .tuple #[]) (by simp [results, Try.results40, go_sem]) rfl ?_
  exact ⟨rfl, rfl⟩

set_option linter.unusedSimpArgs false in
set_option maxHeartbeats 4000000 in
set_option maxRecDepth 100000 in
theorem waits_zero {w : World} {p : Nat} (a : Option Addr) (c : Nat) (hc : a = none → c = 0) (h : w.cell? ⟨p, 0, none⟩ = some (.slice a 0 c)) :
    Calls Try.prog 17 #[.pointer (some ⟨p, 0, none⟩)] w fun e w' => (∃ a' c', e = .returned (.slice a' 0 c')) ∧ Below w.heap.size w w' := by
  have SR : Calls Try.prog 29 #[.pointer (some ⟨p, 0, none⟩)] w fun e w' => (∃ a' c', e = .returned (.slice a' 0 c')) ∧ Below w.heap.size w w' := by
    have CP := copied_zero a c hc h
    clear h
    go_enter Try.func29, Try.ntmps29
    go_wp2_with fail
    refine CP.mono ?_
    rintro e z ⟨⟨a', c', rfl, _⟩, bz⟩
    clear CP
    go_wp2_with fail
    refine (sort_zero _ _ _).mono ?_
    rintro e z2 ⟨rfl, rfl⟩
    go_wp2_with fail
    go_ret
    exact ⟨⟨_, _, rfl⟩, Below.al bz _⟩
  clear h
  go_enter Try.func17, Try.ntmps17
  go_wp2_with fail
  refine SR.mono ?_
  rintro e z ⟨⟨a', c', rfl⟩, bz⟩
  go_wp2_with fail
  go_ret
  exact ⟨⟨_, _, rfl⟩, bz⟩
#print axioms waits_zero
end Go.Proofs.Ytndlpjfofjikeaa
