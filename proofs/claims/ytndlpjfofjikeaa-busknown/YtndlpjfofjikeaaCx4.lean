/-
  one: a call, of both.
-/
import Derived.Test.YtndlpjfofjikeaaCw4
namespace Go.Proofs.Ytndlpjfofjikeaa
open Go.RowKit

theorem sendP2 {w : World} {pa pb : Nat} {v u : Value} {l L : List Sn} {n : Nat} (h : Pl w pa v pb u l L n) (hn : n ≤ 10000) (y : Sn) (hy : y.nm = n) (ho : Oct [y.d0, y.d1, y.d2, y.d3, y.d4, y.d5, y.d6, y.d7]) :
    Calls Try.prog 15 #[.pointer (some ⟨pa, 0, none⟩), .int .i64 y.nd, .agg #[.int .u16 y.i, .int .i64 y.n, .int .u8 y.d0, .int .u8 y.d1, .int .u8 y.d2, .int .u8 y.d3, .int .u8 y.d4, .int .u8 y.d5, .int .u8 y.d6, .int .u8 y.d7, .bool y.r]] w fun e w' => e = .returned (.int .i64 (sndE y.nd y.ok L.length)) ∧ IsD w' pb u L (n : Int) ∧ ∃ v' l', IsB w' 0 pa v' l' ((if sndE y.nd y.ok L.length = 0 then n + 1 else n : Nat) : Int) ∧ Two l' (if sndE y.nd y.ok L.length = 0 then insN y L else L) (if sndE y.nd y.ok L.length = 0 then n + 1 else n) ∧ Heap l' l'.length ∧ Kv pa v v' pb w w' := by
  refine (sendP h hn y hy ho).mono (fun e w' hq => ?_)
  obtain ⟨q1, q2⟩ := hq
  refine ⟨q1, ?_⟩
  rcases q2 with ⟨q3, q4, q5⟩ | ⟨q3, v', l', q4, q5, q6, q7, q8⟩
  · rw [if_neg q3, if_neg q3]
    exact ⟨q4.d, v, l, q4.b, q4.t, q4.hh, q5⟩
  · rw [if_pos q3, if_pos q3]
    rw [hy] at q4 q5
    exact ⟨q5, v', l', q4, q6, q7, q8⟩
theorem sendD2 {w : World} {p : Nat} {u : Value} {L : List Sn} {n : Nat} (y : Sn) (hy : y.nm = n) (hn : n ≤ 10000) (h : IsD w p u L (n : Int)) :
    Calls Try.prog 23 #[.pointer (some ⟨p, 0, none⟩), .int .i64 y.nd, .agg #[.int .u16 y.i, .int .i64 y.n, .int .u8 y.d0, .int .u8 y.d1, .int .u8 y.d2, .int .u8 y.d3, .int .u8 y.d4, .int .u8 y.d5, .int .u8 y.d6, .int .u8 y.d7, .bool y.r]] w fun e w' => e = .returned (.int .i64 (sndE y.nd y.ok L.length)) ∧ (∃ u', IsD w' p u' (if sndE y.nd y.ok L.length = 0 then insN y L else L) ((if sndE y.nd y.ok L.length = 0 then n + 1 else n : Nat) : Int)) ∧ Kp [p] w w' := by
  refine (sendD y (by rw [hy]; exact h) (by omega) (by omega)).mono (fun e w' hq => ?_)
  obtain ⟨q1, q2, q3⟩ := hq
  refine ⟨q1, ?_, q3⟩
  rcases q2 with ⟨q4, q5⟩ | ⟨q4, u', q5⟩
  · rw [if_neg q4, if_neg q4]
    rw [hy] at q5
    exact ⟨u, q5⟩
  · rw [if_pos q4, if_pos q4]
    rw [hy] at q5
    exact ⟨u', q5⟩
theorem Two.less {l L : List Sn} {n : Nat} (h : Two l L n) : l.length ≤ n := by
  have h1 := h.nd
  have h2 : (L.map (fun x => x.nm.toNat)).Nodup := by
    rw [List.Nodup, List.pairwise_map]
    rw [List.Nodup] at h1
    refine List.Pairwise.imp_of_mem ?_ h1
    intro a b ha hb hab e
    have ra := h.rng a ha
    have rb := h.rng b hb
    exact hab (h.one a ha b hb (by omega))
  have h3 := List.Nodup.length_le_of_subset h2 (l₂ := List.range n) (fun k hk => by
    rw [List.mem_map] at hk
    obtain ⟨x, hx, rfl⟩ := hk
    have := h.rng x hx
    rw [List.mem_range]
    omega)
  rw [List.length_map, List.length_range, h.len] at h3
  exact h3

set_option linter.unusedSimpArgs false in
set_option maxHeartbeats 4000000 in
set_option maxRecDepth 100000 in
theorem one_any {w : World} {pa pb : Nat} {v u : Value} {l L : List Sn} {n : Nat} (h : Pl w pa v pb u l L n) (hl : l.length ≤ 10000) (hn : n ≤ 5000) (kd tm : Int) (y : Sn) (ho : Oct [y.d0, y.d1, y.d2, y.d3, y.d4, y.d5, y.d6, y.d7]) :
    Calls Try.prog 12 #[.pointer (some ⟨pa, 0, none⟩), .pointer (some ⟨pb, 0, none⟩), .agg #[.int .i64 kd, .int .i64 y.nd, .int .u16 y.i, .int .i64 y.n, .int .u8 y.d0, .int .u8 y.d1, .int .u8 y.d2, .int .u8 y.d3, .int .u8 y.d4, .int .u8 y.d5, .int .u8 y.d6, .int .u8 y.d7, .bool y.r, .int .i64 tm]] w fun e w' => e = .returned (.bool true) ∧ ∃ v' u' l' L' n', Pl w' pa v' pb u' l' L' n' ∧ (n' : Int) ≤ n + (if pickN kd 6 < 2 then pickN tm 600 + 1 else 0) ∧ Kv pa v v' pb w w' := by
  have hx : Below w.heap.size w (w.alloc (.cells #[.int .i64 kd, .int .i64 y.nd, .int .u16 y.i, .int .i64 y.n, .int .u8 y.d0, .int .u8 y.d1, .int .u8 y.d2, .int .u8 y.d3, .int .u8 y.d4, .int .u8 y.d5, .int .u8 y.d6, .int .u8 y.d7, .bool y.r, .int .i64 tm] 29)) := Below.al (Below.refl _ _) _
  have PK := pick_any kd 6 (by decide) (by decide) (w.alloc (.cells #[.int .i64 kd, .int .i64 y.nd, .int .u16 y.i, .int .i64 y.n, .int .u8 y.d0, .int .u8 y.d1, .int .u8 y.d2, .int .u8 y.d3, .int .u8 y.d4, .int .u8 y.d5, .int .u8 y.d6, .int .u8 y.d7, .bool y.r, .int .i64 tm] 29))
  obtain ⟨p1, p2⟩ := pickN_in kd 6 (by decide)
  obtain ⟨q6, hq6⟩ : ∃ q6, Hid (q6 = pickN kd 6) := ⟨_, rfl⟩
  rw [← hq6.out] at PK p1 p2
  obtain ⟨BN, hBN⟩ : ∃ BN, Hid (BN = (n : Int) + (if pickN kd 6 < 2 then pickN tm 600 + 1 else 0)) := ⟨_, rfl⟩
  rw [← hBN.out]
  go_enter Try.func12, Try.ntmps12
  go_wp2_with fail
  refine PK.mono ?_
  rintro e z0 ⟨rfl, rfl⟩
  clear PK
  have HN0 : Hid ((n : Int) ≤ BN) := by
    show (n : Int) ≤ _
    rw [hBN.out]
    have := (pickN_in tm 600 (by decide)).1
    split <;> omega
  by_cases c2 : q6 = 2
  · 
    have NX := nextP (h.next hx) hl
    have EQ : ∀ (x : Sn) w, (binOp .eql 27 (.agg #[.int .u16 x.i, .int .i64 x.n, .int .u8 x.d0, .int .u8 x.d1, .int .u8 x.d2, .int .u8 x.d3, .int .u8 x.d4, .int .u8 x.d5, .int .u8 x.d6, .int .u8 x.d7, .bool x.r]) (.agg #[.int .u16 x.i, .int .i64 x.n, .int .u8 x.d0, .int .u8 x.d1, .int .u8 x.d2, .int .u8 x.d3, .int .u8 x.d4, .int .u8 x.d5, .int .u8 x.d6, .int .u8 x.d7, .bool x.r])).run Try.prog w = .ok (.bool true) w := fun x w => by
      have := eqlF w x.i x.n x.d0 x.d1 x.d2 x.d3 x.d4 x.d5 x.d6 x.d7 x.r x.i x.n x.d0 x.d1 x.d2 x.d3 x.d4 x.d5 x.d6 x.d7 x.r
      rw [sameF_self] at this
      exact this
    clear h
    go_wp2_with fail
    refine NX.mono ?_
    clear NX
    rintro e z1 (⟨hL, rfl, P1, K1⟩ | ⟨x, t, v', m, hL, rfl, B1, D1, T1, H1, K1⟩)
    · subst hL
      have RN : Hid (∀ o, Calls Try.prog 21 #[.pointer (some ⟨pb, 0, none⟩)] (z1.alloc o) fun e w' => e = .returned (.tuple #[.agg #[.int .i64 0, .int .u16 0, .int .i64 0, .int .u8 0, .int .u8 0, .int .u8 0, .int .u8 0, .int .u8 0, .int .u8 0, .int .u8 0, .int .u8 0, .bool false, .int .i64 0], .bool false]) ∧ Below (z1.alloc o).heap.size (z1.alloc o) w') := fun o => rnext_none (P1.d.next (Below.al (Below.refl _ _) o))
      have E0 := EQ ⟨0, 0, 0, 0, 0, 0, 0, 0, 0, 0, 0, false, 0⟩
      dsimp only at E0
      clear EQ
      go_wp2_with fail
      refine (RN.out _).mono ?_
      rintro e z2 ⟨rfl, bz2⟩
      have HX : ∀ o, (z2.alloc o).heap[z1.heap.size]? = some (.cells #[.int .i64 0, .int .u16 0, .int .i64 0, .int .u8 0, .int .u8 0, .int .u8 0, .int .u8 0, .int .u8 0, .int .u8 0, .int .u8 0, .int .u8 0, .bool false, .int .i64 0] 42 (0, 0)) := fun o => (Below.heap_alloc _ _ _ (by have := bz2.size; simp at this; omega)).trans ((bz2.block z1.heap.size (by simp)).trans (heap_alloc_last z1 _))
      have x0 : ∀ o, (z2.alloc o).cell? ⟨z1.heap.size, 0, none⟩ = some (.int .i64 0) := fun o => by rw [cell_of_row _ _ 0 _ _ _ (HX o)]; rfl
      have x1 : ∀ o, (z2.alloc o).cell? ⟨z1.heap.size, 1, none⟩ = some (.int .u16 0) := fun o => by rw [cell_of_row _ _ 1 _ _ _ (HX o)]; rfl
      have x2 : ∀ o, (z2.alloc o).cell? ⟨z1.heap.size, 2, none⟩ = some (.int .i64 0) := fun o => by rw [cell_of_row _ _ 2 _ _ _ (HX o)]; rfl
      have x3 : ∀ o, (z2.alloc o).cell? ⟨z1.heap.size, 3, none⟩ = some (.int .u8 0) := fun o => by rw [cell_of_row _ _ 3 _ _ _ (HX o)]; rfl
      have x4 : ∀ o, (z2.alloc o).cell? ⟨z1.heap.size, 4, none⟩ = some (.int .u8 0) := fun o => by rw [cell_of_row _ _ 4 _ _ _ (HX o)]; rfl
      have x5 : ∀ o, (z2.alloc o).cell? ⟨z1.heap.size, 5, none⟩ = some (.int .u8 0) := fun o => by rw [cell_of_row _ _ 5 _ _ _ (HX o)]; rfl
      have x6 : ∀ o, (z2.alloc o).cell? ⟨z1.heap.size, 6, none⟩ = some (.int .u8 0) := fun o => by rw [cell_of_row _ _ 6 _ _ _ (HX o)]; rfl
      have x7 : ∀ o, (z2.alloc o).cell? ⟨z1.heap.size, 7, none⟩ = some (.int .u8 0) := fun o => by rw [cell_of_row _ _ 7 _ _ _ (HX o)]; rfl
      have x8 : ∀ o, (z2.alloc o).cell? ⟨z1.heap.size, 8, none⟩ = some (.int .u8 0) := fun o => by rw [cell_of_row _ _ 8 _ _ _ (HX o)]; rfl
      have x9 : ∀ o, (z2.alloc o).cell? ⟨z1.heap.size, 9, none⟩ = some (.int .u8 0) := fun o => by rw [cell_of_row _ _ 9 _ _ _ (HX o)]; rfl
      have x10 : ∀ o, (z2.alloc o).cell? ⟨z1.heap.size, 10, none⟩ = some (.int .u8 0) := fun o => by rw [cell_of_row _ _ 10 _ _ _ (HX o)]; rfl
      have x11 : ∀ o, (z2.alloc o).cell? ⟨z1.heap.size, 11, none⟩ = some (.bool false) := fun o => by rw [cell_of_row _ _ 11 _ _ _ (HX o)]; rfl
      have x12 : ∀ o, (z2.alloc o).cell? ⟨z1.heap.size, 12, none⟩ = some (.int .i64 0) := fun o => by rw [cell_of_row _ _ 12 _ _ _ (HX o)]; rfl
      have RES : Hid (∀ o, ∃ v' u' l' L' n', Pl (z2.alloc o) pa v' pb u' l' L' n' ∧ (n' : Int) ≤ BN ∧ Kv pa v v' pb w (z2.alloc o)) := fun o => by
        have b2 := Below.andThen (Below.andThen (Below.al (Below.refl z1.heap.size z1) _) bz2) (Below.al (Below.refl _ _) o)
        exact ⟨v, u, l, [], n, P1.next b2, HN0.out, ((Kv.of hx).trans K1).trans (Kv.of b2)⟩
      clear P1 K1 RN bz2 HX hx
      go_wp2_with fail
      go_ret
      exact ⟨rfl, RES.out _⟩
    · subst hL
      have RN : Hid (∀ o, Calls Try.prog 21 #[.pointer (some ⟨pb, 0, none⟩)] (z1.alloc o) fun e w' => e = .returned (.tuple #[.agg x.A, .bool true]) ∧ (∃ u', IsD w' pb u' t (n : Int)) ∧ Kp [pb] (z1.alloc o) w') := fun o => rnext_some (D1.next (Below.al (Below.refl _ _) o))
      have E0 := EQ x
      have hpb := lt_of_heap D1.head
      clear EQ
      go_wp2_with fail
      refine (RN.out _).mono ?_
      rintro e z2 ⟨rfl, ⟨u', D2⟩, k2⟩
      have HX : ∀ o, (z2.alloc o).heap[z1.heap.size]? = some (.cells x.A 42 (0, 0)) := fun o => (Below.heap_alloc _ _ _ (by have := k2.size; simp at this; omega)).trans ((k2.block z1.heap.size (by simp) (by simp; omega)).trans (heap_alloc_last z1 _))
      have x0 : ∀ o, (z2.alloc o).cell? ⟨z1.heap.size, 0, none⟩ = some (.int .i64 x.nd) := fun o => by rw [cell_of_row _ _ 0 _ _ _ (HX o)]; rfl
      have x1 : ∀ o, (z2.alloc o).cell? ⟨z1.heap.size, 1, none⟩ = some (.int .u16 x.i) := fun o => by rw [cell_of_row _ _ 1 _ _ _ (HX o)]; rfl
      have x2 : ∀ o, (z2.alloc o).cell? ⟨z1.heap.size, 2, none⟩ = some (.int .i64 x.n) := fun o => by rw [cell_of_row _ _ 2 _ _ _ (HX o)]; rfl
      have x3 : ∀ o, (z2.alloc o).cell? ⟨z1.heap.size, 3, none⟩ = some (.int .u8 x.d0) := fun o => by rw [cell_of_row _ _ 3 _ _ _ (HX o)]; rfl
      have x4 : ∀ o, (z2.alloc o).cell? ⟨z1.heap.size, 4, none⟩ = some (.int .u8 x.d1) := fun o => by rw [cell_of_row _ _ 4 _ _ _ (HX o)]; rfl
      have x5 : ∀ o, (z2.alloc o).cell? ⟨z1.heap.size, 5, none⟩ = some (.int .u8 x.d2) := fun o => by rw [cell_of_row _ _ 5 _ _ _ (HX o)]; rfl
      have x6 : ∀ o, (z2.alloc o).cell? ⟨z1.heap.size, 6, none⟩ = some (.int .u8 x.d3) := fun o => by rw [cell_of_row _ _ 6 _ _ _ (HX o)]; rfl
      have x7 : ∀ o, (z2.alloc o).cell? ⟨z1.heap.size, 7, none⟩ = some (.int .u8 x.d4) := fun o => by rw [cell_of_row _ _ 7 _ _ _ (HX o)]; rfl
      have x8 : ∀ o, (z2.alloc o).cell? ⟨z1.heap.size, 8, none⟩ = some (.int .u8 x.d5) := fun o => by rw [cell_of_row _ _ 8 _ _ _ (HX o)]; rfl
      have x9 : ∀ o, (z2.alloc o).cell? ⟨z1.heap.size, 9, none⟩ = some (.int .u8 x.d6) := fun o => by rw [cell_of_row _ _ 9 _ _ _ (HX o)]; rfl
      have x10 : ∀ o, (z2.alloc o).cell? ⟨z1.heap.size, 10, none⟩ = some (.int .u8 x.d7) := fun o => by rw [cell_of_row _ _ 10 _ _ _ (HX o)]; rfl
      have x11 : ∀ o, (z2.alloc o).cell? ⟨z1.heap.size, 11, none⟩ = some (.bool x.r) := fun o => by rw [cell_of_row _ _ 11 _ _ _ (HX o)]; rfl
      have x12 : ∀ o, (z2.alloc o).cell? ⟨z1.heap.size, 12, none⟩ = some (.int .i64 x.nm) := fun o => by rw [cell_of_row _ _ 12 _ _ _ (HX o)]; rfl
      have RES : Hid (∀ o, ∃ v' u' l' L' n', Pl (z2.alloc o) pa v' pb u' l' L' n' ∧ (n' : Int) ≤ BN ∧ Kv pa v v' pb w (z2.alloc o)) := fun o => by
        have b1 := Below.al (Below.refl z1.heap.size z1) (.cells x.A 42)
        have b2 := Below.al (Below.refl z2.heap.size z2) o
        exact ⟨v', u', m, t, n, ⟨(isB_kp (D1.next b1) (B1.next b1) k2).next b2, D2.next b2, T1, H1⟩, HN0.out, ((((Kv.of hx).trans K1).trans (Kv.of b1)).trans (Kv.kp k2)).trans (Kv.of b2)⟩
      clear B1 D1 T1 H1 K1 RN D2 k2 HX hx
      go_wp2_with fail
      go_ret
      exact ⟨rfl, RES.out _⟩
  by_cases c3 : q6 = 3
  · 
    have NX := nextP (h.next hx) hl
    have EQ : ∀ (x : Sn) w, (binOp .eql 27 (.agg #[.int .u16 x.i, .int .i64 x.n, .int .u8 x.d0, .int .u8 x.d1, .int .u8 x.d2, .int .u8 x.d3, .int .u8 x.d4, .int .u8 x.d5, .int .u8 x.d6, .int .u8 x.d7, .bool x.r]) (.agg #[.int .u16 x.i, .int .i64 x.n, .int .u8 x.d0, .int .u8 x.d1, .int .u8 x.d2, .int .u8 x.d3, .int .u8 x.d4, .int .u8 x.d5, .int .u8 x.d6, .int .u8 x.d7, .bool x.r])).run Try.prog w = .ok (.bool true) w := fun x w => by
      have := eqlF w x.i x.n x.d0 x.d1 x.d2 x.d3 x.d4 x.d5 x.d6 x.d7 x.r x.i x.n x.d0 x.d1 x.d2 x.d3 x.d4 x.d5 x.d6 x.d7 x.r
      rw [sameF_self] at this
      exact this
    clear h
    go_wp2_with fail
    refine NX.mono ?_
    clear NX
    rintro e z1 (⟨hL, rfl, P1, K1⟩ | ⟨x, t, v', m, hL, rfl, B1, D1, T1, H1, K1⟩)
    · subst hL
      have RN : Hid (∀ o, Calls Try.prog 21 #[.pointer (some ⟨pb, 0, none⟩)] (z1.alloc o) fun e w' => e = .returned (.tuple #[.agg #[.int .i64 0, .int .u16 0, .int .i64 0, .int .u8 0, .int .u8 0, .int .u8 0, .int .u8 0, .int .u8 0, .int .u8 0, .int .u8 0, .int .u8 0, .bool false, .int .i64 0], .bool false]) ∧ Below (z1.alloc o).heap.size (z1.alloc o) w') := fun o => rnext_none (P1.d.next (Below.al (Below.refl _ _) o))
      have E0 := EQ ⟨0, 0, 0, 0, 0, 0, 0, 0, 0, 0, 0, false, 0⟩
      dsimp only at E0
      clear EQ
      go_wp2_with fail
      refine (RN.out _).mono ?_
      rintro e z2 ⟨rfl, bz2⟩
      have HX : ∀ o, (z2.alloc o).heap[z1.heap.size]? = some (.cells #[.int .i64 0, .int .u16 0, .int .i64 0, .int .u8 0, .int .u8 0, .int .u8 0, .int .u8 0, .int .u8 0, .int .u8 0, .int .u8 0, .int .u8 0, .bool false, .int .i64 0] 42 (0, 0)) := fun o => (Below.heap_alloc _ _ _ (by have := bz2.size; simp at this; omega)).trans ((bz2.block z1.heap.size (by simp)).trans (heap_alloc_last z1 _))
      have x0 : ∀ o, (z2.alloc o).cell? ⟨z1.heap.size, 0, none⟩ = some (.int .i64 0) := fun o => by rw [cell_of_row _ _ 0 _ _ _ (HX o)]; rfl
      have x1 : ∀ o, (z2.alloc o).cell? ⟨z1.heap.size, 1, none⟩ = some (.int .u16 0) := fun o => by rw [cell_of_row _ _ 1 _ _ _ (HX o)]; rfl
      have x2 : ∀ o, (z2.alloc o).cell? ⟨z1.heap.size, 2, none⟩ = some (.int .i64 0) := fun o => by rw [cell_of_row _ _ 2 _ _ _ (HX o)]; rfl
      have x3 : ∀ o, (z2.alloc o).cell? ⟨z1.heap.size, 3, none⟩ = some (.int .u8 0) := fun o => by rw [cell_of_row _ _ 3 _ _ _ (HX o)]; rfl
      have x4 : ∀ o, (z2.alloc o).cell? ⟨z1.heap.size, 4, none⟩ = some (.int .u8 0) := fun o => by rw [cell_of_row _ _ 4 _ _ _ (HX o)]; rfl
      have x5 : ∀ o, (z2.alloc o).cell? ⟨z1.heap.size, 5, none⟩ = some (.int .u8 0) := fun o => by rw [cell_of_row _ _ 5 _ _ _ (HX o)]; rfl
      have x6 : ∀ o, (z2.alloc o).cell? ⟨z1.heap.size, 6, none⟩ = some (.int .u8 0) := fun o => by rw [cell_of_row _ _ 6 _ _ _ (HX o)]; rfl
      have x7 : ∀ o, (z2.alloc o).cell? ⟨z1.heap.size, 7, none⟩ = some (.int .u8 0) := fun o => by rw [cell_of_row _ _ 7 _ _ _ (HX o)]; rfl
      have x8 : ∀ o, (z2.alloc o).cell? ⟨z1.heap.size, 8, none⟩ = some (.int .u8 0) := fun o => by rw [cell_of_row _ _ 8 _ _ _ (HX o)]; rfl
      have x9 : ∀ o, (z2.alloc o).cell? ⟨z1.heap.size, 9, none⟩ = some (.int .u8 0) := fun o => by rw [cell_of_row _ _ 9 _ _ _ (HX o)]; rfl
      have x10 : ∀ o, (z2.alloc o).cell? ⟨z1.heap.size, 10, none⟩ = some (.int .u8 0) := fun o => by rw [cell_of_row _ _ 10 _ _ _ (HX o)]; rfl
      have x11 : ∀ o, (z2.alloc o).cell? ⟨z1.heap.size, 11, none⟩ = some (.bool false) := fun o => by rw [cell_of_row _ _ 11 _ _ _ (HX o)]; rfl
      have x12 : ∀ o, (z2.alloc o).cell? ⟨z1.heap.size, 12, none⟩ = some (.int .i64 0) := fun o => by rw [cell_of_row _ _ 12 _ _ _ (HX o)]; rfl
      have RES : Hid (∀ o, ∃ v' u' l' L' n', Pl (z2.alloc o) pa v' pb u' l' L' n' ∧ (n' : Int) ≤ BN ∧ Kv pa v v' pb w (z2.alloc o)) := fun o => by
        have b2 := Below.andThen (Below.andThen (Below.al (Below.refl z1.heap.size z1) _) bz2) (Below.al (Below.refl _ _) o)
        exact ⟨v, u, l, [], n, P1.next b2, HN0.out, ((Kv.of hx).trans K1).trans (Kv.of b2)⟩
      clear P1 K1 RN bz2 HX hx
      go_wp2_with fail
      go_ret
      exact ⟨rfl, RES.out _⟩
    · subst hL
      have RN : Hid (∀ o, Calls Try.prog 21 #[.pointer (some ⟨pb, 0, none⟩)] (z1.alloc o) fun e w' => e = .returned (.tuple #[.agg x.A, .bool true]) ∧ (∃ u', IsD w' pb u' t (n : Int)) ∧ Kp [pb] (z1.alloc o) w') := fun o => rnext_some (D1.next (Below.al (Below.refl _ _) o))
      have E0 := EQ x
      have hpb := lt_of_heap D1.head
      clear EQ
      go_wp2_with fail
      refine (RN.out _).mono ?_
      rintro e z2 ⟨rfl, ⟨u', D2⟩, k2⟩
      have HX : ∀ o, (z2.alloc o).heap[z1.heap.size]? = some (.cells x.A 42 (0, 0)) := fun o => (Below.heap_alloc _ _ _ (by have := k2.size; simp at this; omega)).trans ((k2.block z1.heap.size (by simp) (by simp; omega)).trans (heap_alloc_last z1 _))
      have x0 : ∀ o, (z2.alloc o).cell? ⟨z1.heap.size, 0, none⟩ = some (.int .i64 x.nd) := fun o => by rw [cell_of_row _ _ 0 _ _ _ (HX o)]; rfl
      have x1 : ∀ o, (z2.alloc o).cell? ⟨z1.heap.size, 1, none⟩ = some (.int .u16 x.i) := fun o => by rw [cell_of_row _ _ 1 _ _ _ (HX o)]; rfl
      have x2 : ∀ o, (z2.alloc o).cell? ⟨z1.heap.size, 2, none⟩ = some (.int .i64 x.n) := fun o => by rw [cell_of_row _ _ 2 _ _ _ (HX o)]; rfl
      have x3 : ∀ o, (z2.alloc o).cell? ⟨z1.heap.size, 3, none⟩ = some (.int .u8 x.d0) := fun o => by rw [cell_of_row _ _ 3 _ _ _ (HX o)]; rfl
      have x4 : ∀ o, (z2.alloc o).cell? ⟨z1.heap.size, 4, none⟩ = some (.int .u8 x.d1) := fun o => by rw [cell_of_row _ _ 4 _ _ _ (HX o)]; rfl
      have x5 : ∀ o, (z2.alloc o).cell? ⟨z1.heap.size, 5, none⟩ = some (.int .u8 x.d2) := fun o => by rw [cell_of_row _ _ 5 _ _ _ (HX o)]; rfl
      have x6 : ∀ o, (z2.alloc o).cell? ⟨z1.heap.size, 6, none⟩ = some (.int .u8 x.d3) := fun o => by rw [cell_of_row _ _ 6 _ _ _ (HX o)]; rfl
      have x7 : ∀ o, (z2.alloc o).cell? ⟨z1.heap.size, 7, none⟩ = some (.int .u8 x.d4) := fun o => by rw [cell_of_row _ _ 7 _ _ _ (HX o)]; rfl
      have x8 : ∀ o, (z2.alloc o).cell? ⟨z1.heap.size, 8, none⟩ = some (.int .u8 x.d5) := fun o => by rw [cell_of_row _ _ 8 _ _ _ (HX o)]; rfl
      have x9 : ∀ o, (z2.alloc o).cell? ⟨z1.heap.size, 9, none⟩ = some (.int .u8 x.d6) := fun o => by rw [cell_of_row _ _ 9 _ _ _ (HX o)]; rfl
      have x10 : ∀ o, (z2.alloc o).cell? ⟨z1.heap.size, 10, none⟩ = some (.int .u8 x.d7) := fun o => by rw [cell_of_row _ _ 10 _ _ _ (HX o)]; rfl
      have x11 : ∀ o, (z2.alloc o).cell? ⟨z1.heap.size, 11, none⟩ = some (.bool x.r) := fun o => by rw [cell_of_row _ _ 11 _ _ _ (HX o)]; rfl
      have x12 : ∀ o, (z2.alloc o).cell? ⟨z1.heap.size, 12, none⟩ = some (.int .i64 x.nm) := fun o => by rw [cell_of_row _ _ 12 _ _ _ (HX o)]; rfl
      have RES : Hid (∀ o, ∃ v' u' l' L' n', Pl (z2.alloc o) pa v' pb u' l' L' n' ∧ (n' : Int) ≤ BN ∧ Kv pa v v' pb w (z2.alloc o)) := fun o => by
        have b1 := Below.al (Below.refl z1.heap.size z1) (.cells x.A 42)
        have b2 := Below.al (Below.refl z2.heap.size z2) o
        exact ⟨v', u', m, t, n, ⟨(isB_kp (D1.next b1) (B1.next b1) k2).next b2, D2.next b2, T1, H1⟩, HN0.out, ((((Kv.of hx).trans K1).trans (Kv.of b1)).trans (Kv.kp k2)).trans (Kv.of b2)⟩
      clear B1 D1 T1 H1 K1 RN D2 k2 HX hx
      go_wp2_with fail
      go_ret
      exact ⟨rfl, RES.out _⟩
  by_cases c5 : q6 = 5
  · have RES : Hid (∃ v' u' l' L' n', Pl (w.alloc (.cells #[.int .i64 kd, .int .i64 y.nd, .int .u16 y.i, .int .i64 y.n, .int .u8 y.d0, .int .u8 y.d1, .int .u8 y.d2, .int .u8 y.d3, .int .u8 y.d4, .int .u8 y.d5, .int .u8 y.d6, .int .u8 y.d7, .bool y.r, .int .i64 tm] 29)) pa v' pb u' l' L' n' ∧ (n' : Int) ≤ BN ∧ Kv pa v v' pb w (w.alloc (.cells #[.int .i64 kd, .int .i64 y.nd, .int .u16 y.i, .int .i64 y.n, .int .u8 y.d0, .int .u8 y.d1, .int .u8 y.d2, .int .u8 y.d3, .int .u8 y.d4, .int .u8 y.d5, .int .u8 y.d6, .int .u8 y.d7, .bool y.r, .int .i64 tm] 29))) := ⟨v, u, l, L, n, h.next hx, HN0.out, Kv.of hx⟩
    clear h hx
    go_wp2_with fail
    go_ret
    exact ⟨rfl, RES.out⟩
  have hpa := lt_of_heap h.b.head
  have hpb := lt_of_heap h.d.head
  have hvb : ∀ k, v.ownBlock = some k → k < w.heap.size := fun k hk => (h.b.own.lt k hk).2
  have DW : Below w.heap.size w (w.alloc (.cells #[.int .i64 kd, .int .i64 y.nd, .int .u16 y.i, .int .i64 y.n, .int .u8 y.d0, .int .u8 y.d1, .int .u8 y.d2, .int .u8 y.d3, .int .u8 y.d4, .int .u8 y.d5, .int .u8 y.d6, .int .u8 y.d7, .bool y.r, .int .i64 tm] 29)).drew := Below.drew hx
  have KB : Hid (∀ x v1 z, z = (w.alloc (.cells #[.int .i64 kd, .int .i64 y.nd, .int .u16 y.i, .int .i64 y.n, .int .u8 y.d0, .int .u8 y.d1, .int .u8 y.d2, .int .u8 y.d3, .int .u8 y.d4, .int .u8 y.d5, .int .u8 y.d6, .int .u8 y.d7, .bool y.r, .int .i64 tm] 29)).drew → Kv pa v v1 pb z x → x.cell? ⟨w.heap.size, 1, none⟩ = some (.int .i64 y.nd) ∧ x.cell? ⟨w.heap.size, 2, none⟩ = some (.int .u16 y.i) ∧ x.cell? ⟨w.heap.size, 3, none⟩ = some (.int .i64 y.n) ∧ x.cell? ⟨w.heap.size, 4, none⟩ = some (.int .u8 y.d0) ∧ x.cell? ⟨w.heap.size, 5, none⟩ = some (.int .u8 y.d1) ∧ x.cell? ⟨w.heap.size, 6, none⟩ = some (.int .u8 y.d2) ∧ x.cell? ⟨w.heap.size, 7, none⟩ = some (.int .u8 y.d3) ∧ x.cell? ⟨w.heap.size, 8, none⟩ = some (.int .u8 y.d4) ∧ x.cell? ⟨w.heap.size, 9, none⟩ = some (.int .u8 y.d5) ∧ x.cell? ⟨w.heap.size, 10, none⟩ = some (.int .u8 y.d6) ∧ x.cell? ⟨w.heap.size, 11, none⟩ = some (.int .u8 y.d7) ∧ x.cell? ⟨w.heap.size, 12, none⟩ = some (.bool y.r) ∧ x.cell? ⟨w.heap.size, 13, none⟩ = some (.int .i64 tm)) := fun x v1 z hz k => by
    subst hz
    have hb : x.heap[w.heap.size]? = some (.cells #[.int .i64 kd, .int .i64 y.nd, .int .u16 y.i, .int .i64 y.n, .int .u8 y.d0, .int .u8 y.d1, .int .u8 y.d2, .int .u8 y.d3, .int .u8 y.d4, .int .u8 y.d5, .int .u8 y.d6, .int .u8 y.d7, .bool y.r, .int .i64 tm] 29 (0, 0)) := (k.block w.heap.size (by simp) (by omega) (fun e => by have := hvb _ e.symm; omega) (by omega)).trans (heap_alloc_last w _)
    exact ⟨by rw [cell_of_row x _ 1 _ _ _ hb]; rfl, by rw [cell_of_row x _ 2 _ _ _ hb]; rfl, by rw [cell_of_row x _ 3 _ _ _ hb]; rfl, by rw [cell_of_row x _ 4 _ _ _ hb]; rfl, by rw [cell_of_row x _ 5 _ _ _ hb]; rfl, by rw [cell_of_row x _ 6 _ _ _ hb]; rfl, by rw [cell_of_row x _ 7 _ _ _ hb]; rfl, by rw [cell_of_row x _ 8 _ _ _ hb]; rfl, by rw [cell_of_row x _ 9 _ _ _ hb]; rfl, by rw [cell_of_row x _ 10 _ _ _ hb]; rfl, by rw [cell_of_row x _ 11 _ _ _ hb]; rfl, by rw [cell_of_row x _ 12 _ _ _ hb]; rfl, by rw [cell_of_row x _ 13 _ _ _ hb]; rfl⟩
  have HLL : Hid (L.length ≤ 100000) := by show L.length ≤ 100000; have := h.t.len; omega
  have KR : Kv pa v v pb (w.alloc (.cells #[.int .i64 kd, .int .i64 y.nd, .int .u16 y.i, .int .i64 y.n, .int .u8 y.d0, .int .u8 y.d1, .int .u8 y.d2, .int .u8 y.d3, .int .u8 y.d4, .int .u8 y.d5, .int .u8 y.d6, .int .u8 y.d7, .bool y.r, .int .i64 tm] 29)).drew (w.alloc (.cells #[.int .i64 kd, .int .i64 y.nd, .int .u16 y.i, .int .i64 y.n, .int .u8 y.d0, .int .u8 y.d1, .int .u8 y.d2, .int .u8 y.d3, .int .u8 y.d4, .int .u8 y.d5, .int .u8 y.d6, .int .u8 y.d7, .bool y.r, .int .i64 tm] 29)).drew := Kv.of (Below.refl _ _)
  by_cases c4 : q6 = 4
  · have GP := goneP (h.next DW) hl y.nd
    clear h
    go_wp2_with fail
    refine wp_region_held_drew (S := fun x => x.cell? ⟨w.heap.size, 1, none⟩ = some (.int .i64 y.nd) ∧ x.cell? ⟨w.heap.size, 2, none⟩ = some (.int .u16 y.i) ∧ x.cell? ⟨w.heap.size, 3, none⟩ = some (.int .i64 y.n) ∧ x.cell? ⟨w.heap.size, 4, none⟩ = some (.int .u8 y.d0) ∧ x.cell? ⟨w.heap.size, 5, none⟩ = some (.int .u8 y.d1) ∧ x.cell? ⟨w.heap.size, 6, none⟩ = some (.int .u8 y.d2) ∧ x.cell? ⟨w.heap.size, 7, none⟩ = some (.int .u8 y.d3) ∧ x.cell? ⟨w.heap.size, 8, none⟩ = some (.int .u8 y.d4) ∧ x.cell? ⟨w.heap.size, 9, none⟩ = some (.int .u8 y.d5) ∧ x.cell? ⟨w.heap.size, 10, none⟩ = some (.int .u8 y.d6) ∧ x.cell? ⟨w.heap.size, 11, none⟩ = some (.int .u8 y.d7) ∧ x.cell? ⟨w.heap.size, 12, none⟩ = some (.bool y.r) ∧ x.cell? ⟨w.heap.size, 13, none⟩ = some (.int .i64 tm)) (by kernel_rfl) (KB.out _ _ _ rfl KR) (fun hHeld => ?_)
    refine wpAnyH_take (i := 0) (v := (.pointer (some ⟨pa, 0, none⟩))) rfl (by kernel_rfl) (by kernel_rfl) (by kernel_rfl) (fun _ _ _ h => h) (Or.inl ⟨by rfl, ?_⟩) (by assumption) ?_
    · intro w9 hSw
      try dsimp only at hSw
      go_simp
      all_goals try decide
      all_goals try assumption
    try simp only [Act.put, List.getElem_toArray, List.getElem_cons_succ, List.getElem_cons_zero, List.setIfInBounds_toArray, List.set_cons_zero, List.set_cons_succ]
    refine wpAnyH_take (i := 1) (v := (.pointer (some ⟨w.heap.size, 1, none⟩))) rfl (by kernel_rfl) (by kernel_rfl) (by kernel_rfl) (fun _ _ _ h => h) (Or.inl ⟨by rfl, ?_⟩) (by assumption) ?_
    · intro w9 hSw
      try dsimp only at hSw
      go_simp
      all_goals try decide
      all_goals try assumption
    try simp only [Act.put, List.getElem_toArray, List.getElem_cons_succ, List.getElem_cons_zero, List.setIfInBounds_toArray, List.set_cons_zero, List.set_cons_succ]
    refine wpAnyH_take (i := 2) (v := (.int .i64 y.nd)) rfl (by kernel_rfl) (by kernel_rfl) (by kernel_rfl) (fun _ _ _ h => h) (Or.inl ⟨by rfl, ?_⟩) (by assumption) ?_
    · intro w9 hSw
      try dsimp only at hSw
      go_simp
      all_goals try decide
      all_goals try assumption
    try simp only [Act.put, List.getElem_toArray, List.getElem_cons_succ, List.getElem_cons_zero, List.setIfInBounds_toArray, List.set_cons_zero, List.set_cons_succ]
    refine wpAnyH_take (i := 4) (v := (.pointer (some ⟨pb, 0, none⟩))) rfl (by kernel_rfl) (by kernel_rfl) (by kernel_rfl) (fun _ _ _ h => h) (Or.inl ⟨by rfl, ?_⟩) (by assumption) ?_
    · intro w9 hSw
      try dsimp only at hSw
      go_simp
      all_goals try decide
      all_goals try assumption
    try simp only [Act.put, List.getElem_toArray, List.getElem_cons_succ, List.getElem_cons_zero, List.setIfInBounds_toArray, List.set_cons_zero, List.set_cons_succ]
    refine wpAnyH_take (i := 5) (v := (.pointer (some ⟨w.heap.size, 1, none⟩))) rfl (by kernel_rfl) (by kernel_rfl) (by kernel_rfl) (fun _ _ _ h => h) (Or.inl ⟨by rfl, ?_⟩) (by assumption) ?_
    · intro w9 hSw
      try dsimp only at hSw
      go_simp
      all_goals try decide
      all_goals try assumption
    try simp only [Act.put, List.getElem_toArray, List.getElem_cons_succ, List.getElem_cons_zero, List.setIfInBounds_toArray, List.set_cons_zero, List.set_cons_succ]
    refine wpAnyH_take (i := 6) (v := (.int .i64 y.nd)) rfl (by kernel_rfl) (by kernel_rfl) (by kernel_rfl) (fun _ _ _ h => h) (Or.inl ⟨by rfl, ?_⟩) (by assumption) ?_
    · intro w9 hSw
      try dsimp only at hSw
      go_simp
      all_goals try decide
      all_goals try assumption
    try simp only [Act.put, List.getElem_toArray, List.getElem_cons_succ, List.getElem_cons_zero, List.setIfInBounds_toArray, List.set_cons_zero, List.set_cons_succ]
    refine wpAnyH_ready (rs := [3]) (by kernel_rfl) (by simp) ?_
    refine AllReadyH.cons rfl (fun K' hK => ?_) AllReadyH.nil
    rw [if_pos (by rfl)]
    simp only [List.getElem_toArray, List.getElem_cons_succ, List.getElem_cons_zero]
    go_wp2_with fail
    refine (GP).mono ?_
    rintro e z1 ⟨rfl, v', l', B1, D1, T1, H1, K1⟩
    try go_wp2_with fail
    refine hK.out _ _ (KB.out _ _ _ rfl K1) (fun hHeld => ?_)
    clear hK K'
    try simp only [Act.put, List.getElem_toArray, List.getElem_cons_succ, List.getElem_cons_zero, List.setIfInBounds_toArray, List.set_cons_zero, List.set_cons_succ]
    refine wpAnyH_ready (rs := [7]) (by kernel_rfl) (by simp) ?_
    refine AllReadyH.cons rfl (fun K' hK => ?_) AllReadyH.nil
    rw [if_pos (by rfl)]
    simp only [List.getElem_toArray, List.getElem_cons_succ, List.getElem_cons_zero]
    go_wp2_with fail
    refine (rgone_any D1 HLL.out y.nd).mono ?_
    rintro e z2 ⟨rfl, ⟨u', D2⟩, k2⟩
    try go_wp2_with fail
    refine hK.out _ _ (KB.out _ _ _ rfl (K1.trans (Kv.kp k2))) (fun hHeld => ?_)
    clear hK K'
    try simp only [Act.put, List.getElem_toArray, List.getElem_cons_succ, List.getElem_cons_zero, List.setIfInBounds_toArray, List.set_cons_zero, List.set_cons_succ]
    refine wpAnyH_take (i := 8) (v := (.bool true)) rfl (by kernel_rfl) (by kernel_rfl) (by kernel_rfl) (fun _ _ _ h => h) (Or.inl ⟨by rfl, ?_⟩) (by assumption) ?_
    · intro w9 hSw
      try dsimp only at hSw
      go_simp
      all_goals try decide
      all_goals try assumption
    try simp only [Act.put, List.getElem_toArray, List.getElem_cons_succ, List.getElem_cons_zero, List.setIfInBounds_toArray, List.set_cons_zero, List.set_cons_succ]
    refine wpAnyH_take (i := 9) (v := (.bool true)) rfl (by kernel_rfl) (by kernel_rfl) (by kernel_rfl) (fun _ _ _ h => h) (Or.inl ⟨by rfl, ?_⟩) (by assumption) ?_
    · intro w9 hSw
      try dsimp only at hSw
      go_simp
      all_goals try decide
      all_goals try assumption
    try simp only [Act.put, List.getElem_toArray, List.getElem_cons_succ, List.getElem_cons_zero, List.setIfInBounds_toArray, List.set_cons_zero, List.set_cons_succ]
    refine wpAnyH_done (by kernel_rfl) ?_ _
    have RES : Hid (∃ v' u' l' L' n', Pl z2 pa v' pb u' l' L' n' ∧ (n' : Int) ≤ BN ∧ Kv pa v v' pb w z2) := ⟨v', u', l', _, n, ⟨isB_kp D1 B1 k2, D2, T1, H1⟩, HN0.out, ((Kv.of DW).trans K1).trans (Kv.kp k2)⟩
    clear B1 D1 T1 H1 K1 D2 k2 KB KR DW hx
    go_wp2_with fail
    go_ret
    exact ⟨rfl, RES.out⟩
  have hq2 : q6 < 2 := by omega
  have HBN : Hid (BN = (n : Int) + (pickN tm 600 + 1)) := by show BN = _; rw [hBN.out, if_pos (by rw [← hq6.out]; exact hq2)]
  obtain ⟨TN, hTN⟩ : ∃ TN : Nat, Hid ((TN : Int) = pickN tm 600) := ⟨(pickN tm 600).toNat, by show _ = _; have := (pickN_in tm 600 (by decide)).1; omega⟩
  have hT6 : TN < 600 := by have := (pickN_in tm 600 (by decide)).2; have := hTN.out; omega
  have PK2 : Hid (∀ z, Calls Try.prog 7 #[.int .i64 tm, .int .i64 600] z fun e w' => e = .returned (.int .i64 (TN : Int)) ∧ w' = z) := fun z => by have := pick_any tm 600 (by decide) (by decide) z; rw [← hTN.out] at this; exact this
  have KB1 : Hid (∀ x v1, Kv pa v v1 pb (w.alloc (.cells #[.int .i64 kd, .int .i64 y.nd, .int .u16 y.i, .int .i64 y.n, .int .u8 y.d0, .int .u8 y.d1, .int .u8 y.d2, .int .u8 y.d3, .int .u8 y.d4, .int .u8 y.d5, .int .u8 y.d6, .int .u8 y.d7, .bool y.r, .int .i64 tm] 29)) x → x.cell? ⟨w.heap.size, 1, none⟩ = some (.int .i64 y.nd) ∧ x.cell? ⟨w.heap.size, 2, none⟩ = some (.int .u16 y.i) ∧ x.cell? ⟨w.heap.size, 3, none⟩ = some (.int .i64 y.n) ∧ x.cell? ⟨w.heap.size, 4, none⟩ = some (.int .u8 y.d0) ∧ x.cell? ⟨w.heap.size, 5, none⟩ = some (.int .u8 y.d1) ∧ x.cell? ⟨w.heap.size, 6, none⟩ = some (.int .u8 y.d2) ∧ x.cell? ⟨w.heap.size, 7, none⟩ = some (.int .u8 y.d3) ∧ x.cell? ⟨w.heap.size, 8, none⟩ = some (.int .u8 y.d4) ∧ x.cell? ⟨w.heap.size, 9, none⟩ = some (.int .u8 y.d5) ∧ x.cell? ⟨w.heap.size, 10, none⟩ = some (.int .u8 y.d6) ∧ x.cell? ⟨w.heap.size, 11, none⟩ = some (.int .u8 y.d7) ∧ x.cell? ⟨w.heap.size, 12, none⟩ = some (.bool y.r) ∧ x.cell? ⟨w.heap.size, 13, none⟩ = some (.int .i64 tm)) := fun x v1 k => by
    have hb : x.heap[w.heap.size]? = some (.cells #[.int .i64 kd, .int .i64 y.nd, .int .u16 y.i, .int .i64 y.n, .int .u8 y.d0, .int .u8 y.d1, .int .u8 y.d2, .int .u8 y.d3, .int .u8 y.d4, .int .u8 y.d5, .int .u8 y.d6, .int .u8 y.d7, .bool y.r, .int .i64 tm] 29 (0, 0)) := (k.block w.heap.size (by simp) (by omega) (fun e => by have := hvb _ e.symm; omega) (by omega)).trans (heap_alloc_last w _)
    exact ⟨by rw [cell_of_row x _ 1 _ _ _ hb]; rfl, by rw [cell_of_row x _ 2 _ _ _ hb]; rfl, by rw [cell_of_row x _ 3 _ _ _ hb]; rfl, by rw [cell_of_row x _ 4 _ _ _ hb]; rfl, by rw [cell_of_row x _ 5 _ _ _ hb]; rfl, by rw [cell_of_row x _ 6 _ _ _ hb]; rfl, by rw [cell_of_row x _ 7 _ _ _ hb]; rfl, by rw [cell_of_row x _ 8 _ _ _ hb]; rfl, by rw [cell_of_row x _ 9 _ _ _ hb]; rfl, by rw [cell_of_row x _ 10 _ _ _ hb]; rfl, by rw [cell_of_row x _ 11 _ _ _ hb]; rfl, by rw [cell_of_row x _ 12 _ _ _ hb]; rfl, by rw [cell_of_row x _ 13 _ _ _ hb]; rfl⟩
  have P0 : Hid _ := h.next hx
  have e2 : (q6 == 2) = false := by simp [c2]
  have e3 : (q6 == 3) = false := by simp [c3]
  have e4 : (q6 == 4) = false := by simp [c4]
  have e5 : (q6 == 5) = false := by simp [c5]
  clear h KB KR
  go_wp2_with fail
  go_loopw [11] (fun u11 vr => ∃ (i : Nat) (v1 u1 : Value) (l1 L1 : List Sn) (n1 : Nat), u11 = .int .i64 (i : Int) ∧ i ≤ TN + 1 ∧ n1 ≤ n + i ∧ Pl vr pa v1 pb u1 l1 L1 n1 ∧ Kv pa v v1 pb (w.alloc (.cells #[.int .i64 kd, .int .i64 y.nd, .int .u16 y.i, .int .i64 y.n, .int .u8 y.d0, .int .u8 y.d1, .int .u8 y.d2, .int .u8 y.d3, .int .u8 y.d4, .int .u8 y.d5, .int .u8 y.d6, .int .u8 y.d7, .bool y.r, .int .i64 tm] 29)) vr) (fun u11 _ => TN + 2 - (intOf u11).toNat)
  case atStart => exact ⟨0, v, u, l, L, n, rfl, Nat.zero_le _, Nat.le_refl _, P0.out, Kv.of (Below.refl _ _)⟩
  case round =>
    clear P0
    obtain ⟨i, v1, u1, l1, L1, n1, rfl, hi, hn1, hP, hK⟩ := hrel
    have c13 := (KB1.out wr v1 hK).2.2.2.2.2.2.2.2.2.2.2.2
    have PKr := PK2.out wr
    have HP : Hid _ := hP
    have HK : Hid _ := hK
    clear hP hK
    go_wp2_with fail
    refine PKr.mono ?_
    rintro e z0 ⟨rfl, rfl⟩
    clear PKr
    by_cases hiT : i ≤ TN
    · have gi : (i : Int) ≤ (TN : Int) := by omega
      have wi : IntKind.i64.wrap ((i : Int) + 1) = ((i + 1 : Nat) : Int) := by rw [IntKind.wrap_i64]; omega
      have DZ : Below z0.heap.size z0 z0.drew := Below.drew (Below.refl _ _)
      have KD : Kv pa v v1 pb (w.alloc (.cells #[.int .i64 kd, .int .i64 y.nd, .int .u16 y.i, .int .i64 y.n, .int .u8 y.d0, .int .u8 y.d1, .int .u8 y.d2, .int .u8 y.d3, .int .u8 y.d4, .int .u8 y.d5, .int .u8 y.d6, .int .u8 y.d7, .bool y.r, .int .i64 tm] 29)) z0.drew := HK.out.trans (Kv.of DZ)
      have SP := sendP2 (HP.out.next DZ) (by omega) ⟨y.nd, y.i, y.n, y.d0, y.d1, y.d2, y.d3, y.d4, y.d5, y.d6, y.d7, y.r, (n1 : Int)⟩ rfl ho
      have SD : Hid (∀ z, IsD z pb u1 L1 (n1 : Int) → _) := fun z hz => sendD2 (w := z) (p := pb) (u := u1) (L := L1) (n := n1) ⟨y.nd, y.i, y.n, y.d0, y.d1, y.d2, y.d3, y.d4, y.d5, y.d6, y.d7, y.r, (n1 : Int)⟩ rfl (by omega) hz
      dsimp only at SP
      clear c13 HP HK
      go_wp2_with fail
      refine wp_region_held_drew (S := fun x => x.cell? ⟨w.heap.size, 1, none⟩ = some (.int .i64 y.nd) ∧ x.cell? ⟨w.heap.size, 2, none⟩ = some (.int .u16 y.i) ∧ x.cell? ⟨w.heap.size, 3, none⟩ = some (.int .i64 y.n) ∧ x.cell? ⟨w.heap.size, 4, none⟩ = some (.int .u8 y.d0) ∧ x.cell? ⟨w.heap.size, 5, none⟩ = some (.int .u8 y.d1) ∧ x.cell? ⟨w.heap.size, 6, none⟩ = some (.int .u8 y.d2) ∧ x.cell? ⟨w.heap.size, 7, none⟩ = some (.int .u8 y.d3) ∧ x.cell? ⟨w.heap.size, 8, none⟩ = some (.int .u8 y.d4) ∧ x.cell? ⟨w.heap.size, 9, none⟩ = some (.int .u8 y.d5) ∧ x.cell? ⟨w.heap.size, 10, none⟩ = some (.int .u8 y.d6) ∧ x.cell? ⟨w.heap.size, 11, none⟩ = some (.int .u8 y.d7) ∧ x.cell? ⟨w.heap.size, 12, none⟩ = some (.bool y.r) ∧ x.cell? ⟨w.heap.size, 13, none⟩ = some (.int .i64 tm)) (by kernel_rfl) (KB1.out _ _ KD) (fun hHeld => ?_)
      refine wpAnyH_take (i := 0) (v := (.pointer (some ⟨pa, 0, none⟩))) rfl (by kernel_rfl) (by kernel_rfl) (by kernel_rfl) (fun _ _ _ h => h) (Or.inl ⟨by rfl, ?_⟩) (by assumption) ?_
      · intro w9 hSw
        try dsimp only at hSw
        go_simp
        all_goals try decide
        all_goals try assumption
      try simp only [Act.put, List.getElem_toArray, List.getElem_cons_succ, List.getElem_cons_zero, List.setIfInBounds_toArray, List.set_cons_zero, List.set_cons_succ]
      refine wpAnyH_take (i := 1) (v := (.pointer (some ⟨w.heap.size, 1, none⟩))) rfl (by kernel_rfl) (by kernel_rfl) (by kernel_rfl) (fun _ _ _ h => h) (Or.inl ⟨by rfl, ?_⟩) (by assumption) ?_
      · intro w9 hSw
        try dsimp only at hSw
        go_simp
        all_goals try decide
        all_goals try assumption
      try simp only [Act.put, List.getElem_toArray, List.getElem_cons_succ, List.getElem_cons_zero, List.setIfInBounds_toArray, List.set_cons_zero, List.set_cons_succ]
      refine wpAnyH_take (i := 2) (v := (.int .i64 y.nd)) rfl (by kernel_rfl) (by kernel_rfl) (by kernel_rfl) (fun _ _ _ h => h) (Or.inl ⟨by rfl, ?_⟩) (by assumption) ?_
      · intro w9 hSw
        try dsimp only at hSw
        go_simp
        all_goals try decide
        all_goals try assumption
      try simp only [Act.put, List.getElem_toArray, List.getElem_cons_succ, List.getElem_cons_zero, List.setIfInBounds_toArray, List.set_cons_zero, List.set_cons_succ]
      refine wpAnyH_take (i := 3) (v := (.pointer (some ⟨w.heap.size, 2, none⟩))) rfl (by kernel_rfl) (by kernel_rfl) (by kernel_rfl) (fun _ _ _ h => h) (Or.inl ⟨by rfl, ?_⟩) (by assumption) ?_
      · intro w9 hSw
        try dsimp only at hSw
        go_simp
        all_goals try decide
        all_goals try assumption
      try simp only [Act.put, List.getElem_toArray, List.getElem_cons_succ, List.getElem_cons_zero, List.setIfInBounds_toArray, List.set_cons_zero, List.set_cons_succ]
      refine wpAnyH_take (i := 4) (v := (.agg #[.int .u16 y.i, .int .i64 y.n, .int .u8 y.d0, .int .u8 y.d1, .int .u8 y.d2, .int .u8 y.d3, .int .u8 y.d4, .int .u8 y.d5, .int .u8 y.d6, .int .u8 y.d7, .bool y.r])) rfl (by kernel_rfl) (by kernel_rfl) (by kernel_rfl) (fun _ _ _ h => h) (Or.inl ⟨by rfl, ?_⟩) (by assumption) ?_
      · intro w9 hSw
        try dsimp only at hSw
        go_simp
        all_goals try decide
        all_goals try assumption
      try simp only [Act.put, List.getElem_toArray, List.getElem_cons_succ, List.getElem_cons_zero, List.setIfInBounds_toArray, List.set_cons_zero, List.set_cons_succ]
      refine wpAnyH_take (i := 6) (v := (.pointer (some ⟨pb, 0, none⟩))) rfl (by kernel_rfl) (by kernel_rfl) (by kernel_rfl) (fun _ _ _ h => h) (Or.inl ⟨by rfl, ?_⟩) (by assumption) ?_
      · intro w9 hSw
        try dsimp only at hSw
        go_simp
        all_goals try decide
        all_goals try assumption
      try simp only [Act.put, List.getElem_toArray, List.getElem_cons_succ, List.getElem_cons_zero, List.setIfInBounds_toArray, List.set_cons_zero, List.set_cons_succ]
      refine wpAnyH_take (i := 7) (v := (.pointer (some ⟨w.heap.size, 1, none⟩))) rfl (by kernel_rfl) (by kernel_rfl) (by kernel_rfl) (fun _ _ _ h => h) (Or.inl ⟨by rfl, ?_⟩) (by assumption) ?_
      · intro w9 hSw
        try dsimp only at hSw
        go_simp
        all_goals try decide
        all_goals try assumption
      try simp only [Act.put, List.getElem_toArray, List.getElem_cons_succ, List.getElem_cons_zero, List.setIfInBounds_toArray, List.set_cons_zero, List.set_cons_succ]
      refine wpAnyH_take (i := 8) (v := (.int .i64 y.nd)) rfl (by kernel_rfl) (by kernel_rfl) (by kernel_rfl) (fun _ _ _ h => h) (Or.inl ⟨by rfl, ?_⟩) (by assumption) ?_
      · intro w9 hSw
        try dsimp only at hSw
        go_simp
        all_goals try decide
        all_goals try assumption
      try simp only [Act.put, List.getElem_toArray, List.getElem_cons_succ, List.getElem_cons_zero, List.setIfInBounds_toArray, List.set_cons_zero, List.set_cons_succ]
      refine wpAnyH_take (i := 9) (v := (.pointer (some ⟨w.heap.size, 2, none⟩))) rfl (by kernel_rfl) (by kernel_rfl) (by kernel_rfl) (fun _ _ _ h => h) (Or.inl ⟨by rfl, ?_⟩) (by assumption) ?_
      · intro w9 hSw
        try dsimp only at hSw
        go_simp
        all_goals try decide
        all_goals try assumption
      try simp only [Act.put, List.getElem_toArray, List.getElem_cons_succ, List.getElem_cons_zero, List.setIfInBounds_toArray, List.set_cons_zero, List.set_cons_succ]
      refine wpAnyH_take (i := 10) (v := (.agg #[.int .u16 y.i, .int .i64 y.n, .int .u8 y.d0, .int .u8 y.d1, .int .u8 y.d2, .int .u8 y.d3, .int .u8 y.d4, .int .u8 y.d5, .int .u8 y.d6, .int .u8 y.d7, .bool y.r])) rfl (by kernel_rfl) (by kernel_rfl) (by kernel_rfl) (fun _ _ _ h => h) (Or.inl ⟨by rfl, ?_⟩) (by assumption) ?_
      · intro w9 hSw
        try dsimp only at hSw
        go_simp
        all_goals try decide
        all_goals try assumption
      try simp only [Act.put, List.getElem_toArray, List.getElem_cons_succ, List.getElem_cons_zero, List.setIfInBounds_toArray, List.set_cons_zero, List.set_cons_succ]
      refine wpAnyH_ready (rs := [5]) (by kernel_rfl) (by simp) ?_
      refine AllReadyH.cons rfl (fun K' hK => ?_) AllReadyH.nil
      rw [if_pos (by rfl)]
      simp only [List.getElem_toArray, List.getElem_cons_succ, List.getElem_cons_zero]
      go_wp2_with fail
      refine (SP).mono ?_
      rintro e z1 ⟨rfl, D1, v2, l2, B1, T1, H1, K1⟩
      try go_wp2_with fail
      refine hK.out _ _ (KB1.out _ _ (KD.trans K1)) (fun hHeld => ?_)
      clear hK K'
      try simp only [Act.put, List.getElem_toArray, List.getElem_cons_succ, List.getElem_cons_zero, List.setIfInBounds_toArray, List.set_cons_zero, List.set_cons_succ]
      refine wpAnyH_ready (rs := [11]) (by kernel_rfl) (by simp) ?_
      refine AllReadyH.cons rfl (fun K' hK => ?_) AllReadyH.nil
      rw [if_pos (by rfl)]
      simp only [List.getElem_toArray, List.getElem_cons_succ, List.getElem_cons_zero]
      go_wp2_with fail
      refine (SD.out z1 D1).mono ?_
      rintro e z2 ⟨rfl, ⟨u2, D2⟩, k2⟩
      try go_wp2_with fail
      refine hK.out _ _ (KB1.out _ _ ((KD.trans K1).trans (Kv.kp k2))) (fun hHeld => ?_)
      clear hK K'
      try simp only [Act.put, List.getElem_toArray, List.getElem_cons_succ, List.getElem_cons_zero, List.setIfInBounds_toArray, List.set_cons_zero, List.set_cons_succ]
      refine wpAnyH_take (i := 12) (v := (.bool false)) rfl (by kernel_rfl) (by kernel_rfl) (by kernel_rfl) (fun _ _ _ h => h) (Or.inl ⟨by rfl, ?_⟩) (by assumption) ?_
      · intro w9 hSw
        try dsimp only at hSw
        go_simp
        all_goals try decide
        all_goals try assumption
      try simp only [Act.put, List.getElem_toArray, List.getElem_cons_succ, List.getElem_cons_zero, List.setIfInBounds_toArray, List.set_cons_zero, List.set_cons_succ]
      refine wpAnyH_done (by kernel_rfl) ?_ _
      have RES : Hid (∃ n2, n2 ≤ n + (i + 1) ∧ ∃ v1 u1 l1 L1, Pl z2 pa v1 pb u1 l1 L1 n2 ∧ Kv pa v v1 pb (w.alloc (.cells #[.int .i64 kd, .int .i64 y.nd, .int .u16 y.i, .int .i64 y.n, .int .u8 y.d0, .int .u8 y.d1, .int .u8 y.d2, .int .u8 y.d3, .int .u8 y.d4, .int .u8 y.d5, .int .u8 y.d6, .int .u8 y.d7, .bool y.r, .int .i64 tm] 29)) z2) := ⟨_, by split <;> omega, v2, u2, l2, _, ⟨isB_kp D1 B1 k2, D2, T1, H1⟩, (KD.trans K1).trans (Kv.kp k2)⟩
      clear B1 D1 T1 H1 K1 D2 k2 KD DZ SD
      go_wp2_with fail
      obtain ⟨n2, r1, v3, u3, l3, L3, r2, r3⟩ := RES.out
      first
        | exact ⟨⟨i + 1, v3, u3, l3, L3, n2, rfl, by omega, r1, r2, r3⟩, by simp [intOf]; omega⟩
        | exact ⟨⟨_, .int .i64 ((i : Int) + 1), _, _, _, _, _, _, _, _, _, _, _, _, _, _, _, _, _, _, _, _, ⟨i + 1, v3, u3, l3, L3, n2, by simp, by omega, r1, r2, r3⟩, rfl⟩, by simp [intOf]; omega⟩
    · have gi : ¬ (i : Int) ≤ (TN : Int) := by omega
      have RES : Hid (∃ v' u' l' L' n', Pl z0 pa v' pb u' l' L' n' ∧ (n' : Int) ≤ BN ∧ Kv pa v v' pb w z0) := ⟨v1, u1, l1, L1, n1, HP.out, by have := HBN.out; have := hTN.out; omega, (Kv.of hx).trans HK.out⟩
      clear HP HK
      go_wp2_with fail
      go_ret
      exact ⟨rfl, RES.out⟩
#print axioms one_any
end Go.Proofs.Ytndlpjfofjikeaa
