/-
  The walks of Next and Waits at few that wait.
-/
import Derived.Test.YtndlpjfofjikeaaBh4
namespace Go.Proofs.Ytndlpjfofjikeaa
open Go.RowKit

theorem World.ownsRow.le1 {w : World} {base base' size n : Nat} {e : TypeId} {v : Value} {xs : List Value} (h : w.ownsRow base e size v n xs) (hb : base' ≤ base) : w.ownsRow base' e size v n xs := by
  refine ⟨h.1, ?_⟩
  rcases h.2 with h2 | ⟨g, cap, cur, hv, hg, r⟩
  · exact .inl h2
  · exact .inr ⟨g, cap, cur, hv, by omega, r⟩
/-- One into a block of its own. -/
theorem put_new {z : World} {b : Nat} (y : Sn) (C : Array Value) (hC : C.size = 13) (h : z.heap[b]? = some (.cells C 42 (0, 0))) : ∃ w', (storeVar 42 ⟨b, 0, none⟩ (.agg y.A)).run Try.prog z = .ok () w' ∧ w'.heap[b]? = some (.cells y.A 42 (0, 0)) ∧ Kp [b] z w' := by
  have h1 := store_part 42 13 size42 z b 0 C 42 h y.L (Sn.L_len y) (by omega) (by intro v hv; simp [Sn.L] at hv; rcases hv with rfl | rfl | rfl | rfl | rfl | rfl | rfl | rfl | rfl | rfl | rfl | rfl | rfl <;> rfl)
  refine ⟨_, h1, ?_, (Kp.refl _ _).row _ _ (.inl (by simp))⟩
  have h2 := setRow_heap z b C (C.toList.take 0 ++ y.L ++ C.toList.drop (0 + y.L.length)).toArray 42 (0, 0) h
  have e : (C.toList.take 0 ++ y.L ++ C.toList.drop (0 + y.L.length)) = y.L := by
    rw [List.take_zero, List.nil_append, Sn.L_len, List.drop_of_length_le (by simp [hC]), List.append_nil]
  rw [e] at h2 ⊢
  exact h2

set_option linter.unusedSimpArgs false in
set_option maxHeartbeats 4000000 in
set_option maxRecDepth 100000 in
theorem take2 {w : World} {base p g cap : Nat} {x y : Sn} {ct : Int} (h : IsB w base p (.slice (some ⟨g, 0, none⟩) 2 cap) [y, x] ct) :
    Calls Try.prog 24 #[.pointer (some ⟨p, 0, none⟩)] w fun e w' => e = .returned (.tuple #[.agg y.A, .bool true]) ∧ IsB w' base p (.slice (some ⟨g, 0, none⟩) 1 cap) [x] ct ∧ Kp [p, g] w w' := by
  have hN := fun o => h.next (Below.al (Below.refl w.heap.size w) o)
  have k0 := fun o => (hN o).c0
  have HL := fun o => len_any (some ⟨g, 0, none⟩) 2 cap (w.alloc o)
  have HP : Hid (∀ o, Calls Try.prog 33 #[.iface 69 (.pointer (some ⟨p, 0, none⟩))] (w.alloc o) fun e w' => e = .returned (.iface 42 (.agg y.A)) ∧ IsB w' base p (.slice (some ⟨g, 0, none⟩) 1 cap) [x] ct ∧ Kp [p, g] (w.alloc o) w') := fun o => heapPop2 (hN o)
  have nb : p < w.heap.size ∧ g < w.heap.size := ⟨lt_of_heap h.head, h.old.2⟩
  have TA : ∀ w, (Instr.typeAssert (.iface 42 (.agg y.A)) 20 42 false).run Try.prog w = .ok (.agg y.A) w := fun w => by kernel_rfl
  clear h hN
  go_enter Try.func24, Try.ntmps24
  go_wp2_with fail
  refine (HL _).mono ?_
  rintro e w2 ⟨rfl, rfl⟩
  clear HL
  go_wp2_with fail
  refine (HP.out _).mono ?_
  rintro e z ⟨rfl, Hz, kz⟩
  clear HP k0
  have hblk := (kz.block w.heap.size (by simp) (by simp; omega)).trans (heap_alloc_last w _)
  obtain ⟨w9, ST, LR, K9⟩ := put_new y _ rfl hblk
  have RES : Hid (IsB w9 base p (.slice (some ⟨g, 0, none⟩) 1 cap) [x] ct ∧ Kp [p, g] w w9) := by
    have hz := Hz.old
    refine ⟨⟨by rw [K9.block p (lt_of_heap Hz.head) (by simp; omega)]; exact Hz.head, Hz.own.kept (row := some w.heap.size) ⟨K9.os, K9.tape, K9.output, K9.size, fun k hk hn => K9.block k hk (by simpa using hn)⟩ (.inr (by simp [Value.ownBlock]; omega)), Hz.lt⟩, ?_⟩
    have k1 : Kp [p, g] w z := (Kp.al (Kp.refl _ _) _).trans kz
    exact k1.fresh K9 (by intro i hi; simp at hi; right; omega)
  have r0 : w9.cell? ⟨w.heap.size, 0, none⟩ = some (.int .i64 y.nd) := by rw [cell_of_row w9 _ 0 _ _ _ LR]; rfl
  have r1 : w9.cell? ⟨w.heap.size, 1, none⟩ = some (.int .u16 y.i) := by rw [cell_of_row w9 _ 1 _ _ _ LR]; rfl
  have r2 : w9.cell? ⟨w.heap.size, 2, none⟩ = some (.int .i64 y.n) := by rw [cell_of_row w9 _ 2 _ _ _ LR]; rfl
  have r3 : w9.cell? ⟨w.heap.size, 3, none⟩ = some (.int .u8 y.d0) := by rw [cell_of_row w9 _ 3 _ _ _ LR]; rfl
  have r4 : w9.cell? ⟨w.heap.size, 4, none⟩ = some (.int .u8 y.d1) := by rw [cell_of_row w9 _ 4 _ _ _ LR]; rfl
  have r5 : w9.cell? ⟨w.heap.size, 5, none⟩ = some (.int .u8 y.d2) := by rw [cell_of_row w9 _ 5 _ _ _ LR]; rfl
  have r6 : w9.cell? ⟨w.heap.size, 6, none⟩ = some (.int .u8 y.d3) := by rw [cell_of_row w9 _ 6 _ _ _ LR]; rfl
  have r7 : w9.cell? ⟨w.heap.size, 7, none⟩ = some (.int .u8 y.d4) := by rw [cell_of_row w9 _ 7 _ _ _ LR]; rfl
  have r8 : w9.cell? ⟨w.heap.size, 8, none⟩ = some (.int .u8 y.d5) := by rw [cell_of_row w9 _ 8 _ _ _ LR]; rfl
  have r9 : w9.cell? ⟨w.heap.size, 9, none⟩ = some (.int .u8 y.d6) := by rw [cell_of_row w9 _ 9 _ _ _ LR]; rfl
  have r10 : w9.cell? ⟨w.heap.size, 10, none⟩ = some (.int .u8 y.d7) := by rw [cell_of_row w9 _ 10 _ _ _ LR]; rfl
  have r11 : w9.cell? ⟨w.heap.size, 11, none⟩ = some (.bool y.r) := by rw [cell_of_row w9 _ 11 _ _ _ LR]; rfl
  have r12 : w9.cell? ⟨w.heap.size, 12, none⟩ = some (.int .i64 y.nm) := by rw [cell_of_row w9 _ 12 _ _ _ LR]; rfl
  clear hblk Hz kz K9 LR
  go_wp2_with (refine wpList_store_by rfl 42 (.tmp 2) (.tmp 14) rfl _ _ rfl rfl ST ?_)
  exact bodyPost_ret (v := .tuple #[.agg y.A, .bool true]) (by simp [results, Try.results24, go_sem, r0, r1, r2, r3, r4, r5, r6, r7, r8, r9, r10, r11, r12]) rfl ⟨rfl, RES.out⟩
#print axioms take2

set_option linter.unusedSimpArgs false in
set_option maxHeartbeats 4000000 in
set_option maxRecDepth 100000 in
theorem next2 {w : World} {base p g cap : Nat} {x y : Sn} {ct : Int} (h : IsB w base p (.slice (some ⟨g, 0, none⟩) 2 cap) [y, x] ct) :
    Calls Try.prog 14 #[.pointer (some ⟨p, 0, none⟩)] w fun e w' => e = .returned (.tuple #[.agg y.A, .bool true]) ∧ IsB w' base p (.slice (some ⟨g, 0, none⟩) 1 cap) [x] ct ∧ Kp [p, g] w w' := by
  have hN := fun o => h.next (Below.al (Below.refl w.heap.size w) o)
  have HP : Hid (∀ o, Calls Try.prog 24 #[.pointer (some ⟨p, 0, none⟩)] (w.alloc o) fun e w' => e = .returned (.tuple #[.agg y.A, .bool true]) ∧ IsB w' base p (.slice (some ⟨g, 0, none⟩) 1 cap) [x] ct ∧ Kp [p, g] (w.alloc o) w') := fun o => take2 (hN o)
  have nb : p < w.heap.size ∧ g < w.heap.size := ⟨lt_of_heap h.head, h.old.2⟩
  clear h hN
  go_enter Try.func14, Try.ntmps14
  go_wp2_with fail
  refine (HP.out _).mono ?_
  rintro e z ⟨rfl, Hz, kz⟩
  clear HP
  have hblk := (kz.block w.heap.size (by simp) (by simp; omega)).trans (heap_alloc_last w _)
  obtain ⟨w9, ST, LR, K9⟩ := put_new y _ rfl hblk
  have RES : Hid (IsB w9 base p (.slice (some ⟨g, 0, none⟩) 1 cap) [x] ct ∧ Kp [p, g] w w9) := by
    have hz := Hz.old
    refine ⟨⟨by rw [K9.block p (lt_of_heap Hz.head) (by simp; omega)]; exact Hz.head, Hz.own.kept (row := some w.heap.size) ⟨K9.os, K9.tape, K9.output, K9.size, fun k hk hn => K9.block k hk (by simpa using hn)⟩ (.inr (by simp [Value.ownBlock]; omega)), Hz.lt⟩, ?_⟩
    have k1 : Kp [p, g] w z := (Kp.al (Kp.refl _ _) _).trans kz
    exact k1.fresh K9 (by intro i hi; simp at hi; right; omega)
  have r0 : w9.cell? ⟨w.heap.size, 0, none⟩ = some (.int .i64 y.nd) := by rw [cell_of_row w9 _ 0 _ _ _ LR]; rfl
  have r1 : w9.cell? ⟨w.heap.size, 1, none⟩ = some (.int .u16 y.i) := by rw [cell_of_row w9 _ 1 _ _ _ LR]; rfl
  have r2 : w9.cell? ⟨w.heap.size, 2, none⟩ = some (.int .i64 y.n) := by rw [cell_of_row w9 _ 2 _ _ _ LR]; rfl
  have r3 : w9.cell? ⟨w.heap.size, 3, none⟩ = some (.int .u8 y.d0) := by rw [cell_of_row w9 _ 3 _ _ _ LR]; rfl
  have r4 : w9.cell? ⟨w.heap.size, 4, none⟩ = some (.int .u8 y.d1) := by rw [cell_of_row w9 _ 4 _ _ _ LR]; rfl
  have r5 : w9.cell? ⟨w.heap.size, 5, none⟩ = some (.int .u8 y.d2) := by rw [cell_of_row w9 _ 5 _ _ _ LR]; rfl
  have r6 : w9.cell? ⟨w.heap.size, 6, none⟩ = some (.int .u8 y.d3) := by rw [cell_of_row w9 _ 6 _ _ _ LR]; rfl
  have r7 : w9.cell? ⟨w.heap.size, 7, none⟩ = some (.int .u8 y.d4) := by rw [cell_of_row w9 _ 7 _ _ _ LR]; rfl
  have r8 : w9.cell? ⟨w.heap.size, 8, none⟩ = some (.int .u8 y.d5) := by rw [cell_of_row w9 _ 8 _ _ _ LR]; rfl
  have r9 : w9.cell? ⟨w.heap.size, 9, none⟩ = some (.int .u8 y.d6) := by rw [cell_of_row w9 _ 9 _ _ _ LR]; rfl
  have r10 : w9.cell? ⟨w.heap.size, 10, none⟩ = some (.int .u8 y.d7) := by rw [cell_of_row w9 _ 10 _ _ _ LR]; rfl
  have r11 : w9.cell? ⟨w.heap.size, 11, none⟩ = some (.bool y.r) := by rw [cell_of_row w9 _ 11 _ _ _ LR]; rfl
  have r12 : w9.cell? ⟨w.heap.size, 12, none⟩ = some (.int .i64 y.nm) := by rw [cell_of_row w9 _ 12 _ _ _ LR]; rfl
  clear hblk Hz kz K9 LR
  go_wp2_with (refine wpList_store_by rfl 42 (.tmp 2) (.tmp 11) rfl _ _ rfl rfl ST ?_)
  exact bodyPost_ret (v := .tuple #[.agg y.A, .bool true]) (by simp [results, Try.results14, go_sem, r0, r1, r2, r3, r4, r5, r6, r7, r8, r9, r10, r11, r12]) rfl ⟨rfl, RES.out⟩
#print axioms next2

set_option linter.unusedSimpArgs false in
set_option maxHeartbeats 4000000 in
set_option maxRecDepth 100000 in
theorem clone_any {w : World} {base g cap : Nat} {l : List Sn} (h : IsL w base (.slice (some ⟨g, 0, none⟩) l.length cap) l) (hl : l ≠ []) (hl2 : l.length ≤ 1000000) :
    Calls Try.prog 30 #[.slice (some ⟨g, 0, none⟩) l.length cap] w fun e w' => (∃ g' cap', e = .returned (.slice (some ⟨g', 0, none⟩) l.length cap') ∧ w.heap.size ≤ g' ∧ IsL w' w.heap.size (.slice (some ⟨g', 0, none⟩) l.length cap') l) ∧ Below w.heap.size w w' := by
  obtain ⟨i0, hi, hz0, hz1, hz2⟩ := info_parts infoS
  have NE : ∀ w, (binOp BinOp.eql 57 (.slice (some ⟨g, 0, none⟩) l.length cap) (.slice none 0 0)).run Try.prog w = .ok (.bool false) w := fun w => by first | kernel_rfl | simp [binOp, run_underlying Try.underlying57]
  have hx : ∀ o, Below w.heap.size w (w.alloc o) := fun o => Below.al (Below.refl _ _) o
  have hln : 0 < l.length := List.length_pos_iff.2 hl
  have NW : ∀ o, ∀ j u, (flat l)[j]? = some u → (w.alloc o).cell? ((⟨g, 0, none⟩ : Addr).add j) = some u := fun o j u hu => by
    rw [Addr.add_lit, Nat.zero_add]
    have hgl := (h.lt g rfl).2
    rw [(hx o).cell (p := ⟨g, j, none⟩) hgl]
    rcases h.form with ⟨h1, _⟩ | ⟨g', cap', cur, hv, _, hh, _, _, _, ht⟩
    · cases h1
    · cases hv
      rw [cell_of_row w g j _ _ _ hh]
      have := congrArg (fun z => z[j]?) ht
      simp only [List.getElem?_take] at this
      rw [hu] at this
      split at this
      · simpa using this
      · cases this
  have O1 : ∀ v ∈ flat l, v.oneCell' = true := fun v hv => by
    unfold flat at hv
    obtain ⟨x, _, hx⟩ := List.mem_flatMap.1 hv
    simp [Sn.L] at hx
    rcases hx with rfl | rfl | rfl | rfl | rfl | rfl | rfl | rfl | rfl | rfl | rfl | rfl | rfl <;> rfl
  have OWN : ∀ (z : World), z = w.alloc (.cells #[] 42) → z.ownsRow w.heap.size 42 13 (.slice (some ⟨w.heap.size, 0, none⟩) 0 0) 0 [] := fun z hz => ⟨by simp, .inr ⟨w.heap.size, 0, #[], rfl, Nat.le_refl _, by rw [hz]; exact heap_alloc_last w _, Nat.le_refl _, by decide, by simp, by simp⟩⟩
  clear h
  go_enter Try.func30, Try.ntmps30
  go_wp2_with (at_builtin; refine wpList_append_own _ rfl _ _ 57 rfl w.heap.size 42 i0 _ 13 48 Try.underlying57 hi hz0 hz1 hz2 rfl (by decide) _ 0 [] rfl (OWN _ rfl) ⟨g, 0, none⟩ l.length cap (flat l) rfl (flat_len l) (NW _) O1 (by unfold maxLen; omega) (by omega) (by simp) ?_)
  intro v' w2 hown hgrow hne
  have hb : Below w.heap.size w w2 := (hx _).grown hgrow (by simp) (fun j hj => by cases hj; exact Nat.le_refl _)
  have H2 : IsL w2 w.heap.size v' l := by
    first
      | exact hown
      | (rw [Nat.zero_add, List.nil_append] at hown; exact hown)
  obtain ⟨g', c', rfl⟩ := H2.some hl
  have hg' := (H2.lt g' rfl).1
  have RES : Hid _ := H2
  clear hown hgrow hne NW OWN hx H2
  go_wp2_with fail
  go_ret
  exact ⟨⟨_, _, rfl, hg', RES.out⟩, hb⟩
#print axioms clone_any

set_option linter.unusedSimpArgs false in
set_option maxHeartbeats 4000000 in
set_option maxRecDepth 100000 in
theorem copied_any {w : World} {base p g cap : Nat} {l : List Sn} {ct : Int} (h : IsB w base p (.slice (some ⟨g, 0, none⟩) l.length cap) l ct) (hl : l ≠ []) (hl2 : l.length ≤ 1000000) :
    Calls Try.prog 20 #[.pointer (some ⟨p, 0, none⟩)] w fun e w' => (∃ g' cap', e = .returned (.agg #[.slice (some ⟨g', 0, none⟩) l.length cap']) ∧ w.heap.size ≤ g' ∧ IsL w' w.heap.size (.slice (some ⟨g', 0, none⟩) l.length cap') l) ∧ Below w.heap.size w w' := by
  have hN := fun o => h.next (Below.al (Below.refl w.heap.size w) o)
  have k0 := fun o => (hN o).c0
  have CL : Hid (∀ o, Calls Try.prog 30 #[.slice (some ⟨g, 0, none⟩) l.length cap] (w.alloc o) fun e w' => (∃ g' cap', e = .returned (.slice (some ⟨g', 0, none⟩) l.length cap') ∧ (w.alloc o).heap.size ≤ g' ∧ IsL w' (w.alloc o).heap.size (.slice (some ⟨g', 0, none⟩) l.length cap') l) ∧ Below (w.alloc o).heap.size (w.alloc o) w') := fun o => clone_any (hN o).own hl hl2
  clear h hN
  go_enter Try.func20, Try.ntmps20
  go_wp2_with fail
  refine (CL.out _).mono ?_
  rintro e z ⟨⟨g', c', rfl, hg', Lz⟩, bz⟩
  clear CL k0
  have hblk := (bz.block w.heap.size (by simp)).trans (heap_alloc_last w _)
  have x0 : z.cell? ⟨w.heap.size, 0, none⟩ = some (.slice none 0 0) := by rw [cell_of_row z _ 0 _ _ _ hblk]; rfl
  have xf := frozen_of_row z w.heap.size 0 _ _ hblk
  have sz : ∀ o, (w.alloc o).heap.size = w.heap.size + 1 := fun o => by simp
  rw [sz] at hg' Lz
  have RES : Hid (∀ u, IsL (z.setCell ⟨w.heap.size, 0, none⟩ u) w.heap.size (.slice (some ⟨g', 0, none⟩) l.length c') l ∧ Below w.heap.size w (z.setCell ⟨w.heap.size, 0, none⟩ u)) := fun u => ⟨World.ownsRow.le1 (ownsRow_setCell_below Lz (by show w.heap.size < w.heap.size + 1; omega) u) (by omega), (Below.andThen (Below.al (Below.refl _ _) _) bz).setCell (Nat.le_refl _) _⟩
  clear hblk Lz bz sz
  go_wp2_with fail
  exact bodyPost_ret (v := .agg #[.slice (some ⟨g', 0, none⟩) l.length c']) (by simp [results, Try.results20, go_sem, x0]) rfl ⟨⟨_, _, rfl, by omega, (RES.out _).1⟩, (RES.out _).2⟩
#print axioms copied_any

set_option linter.unusedSimpArgs false in
set_option maxHeartbeats 4000000 in
set_option maxRecDepth 100000 in
theorem sort_one (a : Option Addr) (c : Nat) (w : World) : Calls Try.prog 40 #[.iface 59 (.agg #[.slice a 1 c])] w fun e w' => e = .returned (.tuple #[]) ∧ w' = w := by
  have M1 := meth_lenV 234 (by decide) a 1 c w
  have HL := len_any a 1 c w
  go_enter Try.func40, Try.ntmps40
  go_wp2_with fail
  refine HL.mono ?_
  rintro e w ⟨rfl, rfl⟩
  clear HL M1
  go_wp2_with fail
  first | go_end0 | refine bodyPost_ret (v := .tuple #[]) (by simp [results, Try.results40, go_sem]) rfl ?_
  exact ⟨rfl, rfl⟩

set_option linter.unusedSimpArgs false in
set_option maxHeartbeats 4000000 in
set_option maxRecDepth 100000 in
theorem sorted1 {w : World} {base p g cap : Nat} {x : Sn} {ct : Int} (h : IsB w base p (.slice (some ⟨g, 0, none⟩) 1 cap) [x] ct) :
    Calls Try.prog 29 #[.pointer (some ⟨p, 0, none⟩)] w fun e w' => (∃ a c, e = .returned (.slice a 1 c)) ∧ Below w.heap.size w w' := by
  have CP := copied_any (l := [x]) h (by simp) (by simp)
  clear h
  go_enter Try.func29, Try.ntmps29
  go_wp2_with fail
  refine CP.mono ?_
  rintro e z ⟨⟨g', c', rfl, hg', Lz⟩, bz⟩
  clear CP Lz
  go_wp2_with fail
  refine (sort_one _ _ _).mono ?_
  rintro e z2 ⟨rfl, rfl⟩
  go_wp2_with fail
  go_ret
  exact ⟨⟨_, _, rfl⟩, Below.al bz _⟩

set_option linter.unusedSimpArgs false in
set_option maxHeartbeats 4000000 in
set_option maxRecDepth 100000 in
theorem waits1 {w : World} {base p g cap : Nat} {x : Sn} {ct : Int} (h : IsB w base p (.slice (some ⟨g, 0, none⟩) 1 cap) [x] ct) :
    Calls Try.prog 17 #[.pointer (some ⟨p, 0, none⟩)] w fun e w' => (∃ a c, e = .returned (.slice a 1 c)) ∧ Below w.heap.size w w' := by
  have CP := sorted1 h
  clear h
  go_enter Try.func17, Try.ntmps17
  go_wp2_with fail
  refine CP.mono ?_
  rintro e z ⟨⟨a, c, rfl⟩, bz⟩
  go_wp2_with fail
  go_ret
  exact ⟨⟨_, _, rfl⟩, bz⟩
#print axioms waits1
end Go.Proofs.Ytndlpjfofjikeaa
