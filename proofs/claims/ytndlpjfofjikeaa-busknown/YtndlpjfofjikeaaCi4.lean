/-
  The document's bus in memory; its ahead, Next and Gone.
-/
import Derived.Test.YtndlpjfofjikeaaCc4
namespace Go.Proofs.Ytndlpjfofjikeaa
open Go.RowKit

theorem sizeR : (Try.prog.info? 63).map (·.size) = some 13 := by kernel_rfl
theorem aggR : ∀ w, (isAgg 63).run Try.prog w = .ok true w := fun w => by simp [isAgg, run_underlying Try.underlying63]
theorem infoR : (Try.prog.info? 63).map (fun i => (i.zero, i.size, i.bytes)) = some (some (.agg #[.int .i64 0, .int .u16 0, .int .i64 0, .int .u8 0, .int .u8 0, .int .u8 0, .int .u8 0, .int .u8 0, .int .u8 0, .int .u8 0, .int .u8 0, .bool false, .int .i64 0]), 13, 48) := by kernel_rfl
theorem put_newR {z : World} {b : Nat} (y : Sn) (C : Array Value) (hC : C.size = 13) (h : z.heap[b]? = some (.cells C 63 (0, 0))) : ∃ w', (storeVar 63 ⟨b, 0, none⟩ (.agg y.A)).run Try.prog z = .ok () w' ∧ w'.heap[b]? = some (.cells y.A 63 (0, 0)) ∧ Kp [b] z w' := by
  have h1 := store_part 63 13 sizeR z b 0 C 63 h y.L (Sn.L_len y) (by omega) (by intro v hv; simp [Sn.L] at hv; rcases hv with rfl | rfl | rfl | rfl | rfl | rfl | rfl | rfl | rfl | rfl | rfl | rfl | rfl <;> rfl)
  refine ⟨_, h1, ?_, (Kp.refl _ _).row _ _ (.inl (by simp))⟩
  have h2 := setRow_heap z b C (C.toList.take 0 ++ y.L ++ C.toList.drop (0 + y.L.length)).toArray 63 (0, 0) h
  have e : (C.toList.take 0 ++ y.L ++ C.toList.drop (0 + y.L.length)) = y.L := by
    rw [List.take_zero, List.nil_append, Sn.L_len, List.drop_of_length_le (by simp [hC]), List.append_nil]
  rw [e] at h2 ⊢
  exact h2
/-- The cells of some of them at a place. -/
abbrev CellsR (w : World) (g o : Nat) (l : List Sn) : Prop := ∀ i x, l[i]? = some x → ∀ j u, x.L[j]? = some u → w.cell? ⟨g, o + i * 13 + j, none⟩ = some u
/-- The document's list in memory. -/
structure IsR (w : World) (v : Value) (l : List Sn) : Prop where
  at_ : (v = .slice none 0 0 ∧ l = []) ∨ ∃ g o cap cur, v = .slice (some ⟨g, o, none⟩) l.length cap ∧ l.length ≤ cap ∧ cap ≤ maxLen ∧ w.heap[g]? = some (.cells cur 63 (0, 0)) ∧ CellsR w g o l
theorem IsR.same {w w' : World} {v : Value} {l : List Sn} (h : IsR w v l) (hk : ∀ (k : Nat) (cur : Array Value), v.ownBlock = some k → w.heap[k]? = some (.cells cur 63 (0, 0)) → w'.heap[k]? = w.heap[k]?) : IsR w' v l := by
  rcases h.at_ with h1 | ⟨g, o, cap, cur, h1, h2, h3, h4, h5⟩
  · exact ⟨.inl h1⟩
  · have e := hk g cur (by rw [h1]; rfl) h4
    refine ⟨.inr ⟨g, o, cap, cur, h1, h2, h3, e.trans h4, fun i x hx j u hu => ?_⟩⟩
    rw [World.cell?_of_block (a := ⟨g, o + i * 13 + j, none⟩) e]
    exact h5 i x hx j u hu
theorem IsR.next {w w' : World} {v : Value} {l : List Sn} (h : IsR w v l) (k : Below w.heap.size w w') : IsR w' v l := h.same (fun i _ _ hi => k.block i (lt_of_heap hi))
theorem IsR.some {w : World} {v : Value} {l : List Sn} (h : IsR w v l) (hl : l ≠ []) : ∃ g o cap, v = .slice (.some ⟨g, o, .none⟩) l.length cap ∧ l.length ≤ cap ∧ cap ≤ maxLen ∧ CellsR w g o l := by
  rcases h.at_ with ⟨_, h2⟩ | ⟨g, o, cap, _, h1, h2, h3, _, h5⟩
  · exact absurd h2 hl
  · exact ⟨g, o, cap, h1, h2, h3, h5⟩
theorem loadR {w : World} {g o : Nat} {l : List Sn} (h : CellsR w g o l) (i : Nat) (x : Sn) (hx : l[i]? = some x) : (loadVar 63 ⟨g, o + i * 13, none⟩).run Try.prog w = .ok (.agg x.A) w := by
  cases hq : Try.prog.info? 63 with
  | none => have := sizeR; simp [hq] at this
  | some ie =>
    have hs : ie.size = 13 := by have := sizeR; simpa [hq] using this
    exact Go.Lib.rl_loadVar_cells (P := Try.prog) 63 ie hq aggR g (o + i * 13) x.L (by rw [hs]; rfl) w (fun j v hv => h i x hx j v hv)
theorem CellsR.below {w w' : World} {g o : Nat} {l : List Sn} (h : CellsR w g o l) (k : Below w.heap.size w w') : CellsR w' g o l := fun i x hx j u hu => by
  have := h i x hx j u hu
  rw [k.cell (p := ⟨g, o + i * 13 + j, none⟩) (lt_of_cell this)]
  exact this
theorem CellsR.tail {w : World} {g o : Nat} {x : Sn} {l : List Sn} (h : CellsR w g o (x :: l)) : CellsR w g (o + 13) l := fun i y hy j u hu => by
  have := h (i + 1) y (by rw [List.getElem?_cons_succ]; exact hy) j u hu
  rw [show o + 13 + i * 13 + j = o + (i + 1) * 13 + j from by omega]
  exact this
/-- What a call owns, as the document's list. -/
theorem isR_own {w : World} {base : Nat} {v : Value} {l : List Sn} (h : w.ownsRow base 63 13 v l.length (flat l)) : IsR w v l := by
  rcases h.2 with ⟨h1, h2⟩ | ⟨g, cap, cur, hv, _, hh, hn, hm, hs, ht⟩
  · exact ⟨.inl ⟨h1, List.eq_nil_of_length_eq_zero h2⟩⟩
  · refine ⟨.inr ⟨g, 0, cap, cur, hv, hn, hm, hh, fun i x hx j u hu => ?_⟩⟩
    have hj : j < 13 := by have := (List.getElem?_eq_some_iff.1 hu).1; rw [Sn.L_len] at this; exact this
    have := World.ownsRow.cells h (g := g) (by rw [hv]; rfl) (i * 13 + j) u (by
      have e := flat_at l i x hx
      rw [← e] at hu
      rw [List.getElem?_take, if_pos hj, List.getElem?_drop] at hu
      exact hu)
    rw [Addr.add_lit] at this
    rw [Nat.add_assoc]
    exact this
/-- The document's bus in memory. -/
structure IsD (w : World) (p : Nat) (v : Value) (l : List Sn) (n : Int) : Prop where
  head : w.heap[p]? = some (.cells #[v, .int .i64 n] 36 (0, 0))
  r : IsR w v l
theorem IsD.same {w w' : World} {p : Nat} {v : Value} {l : List Sn} {n : Int} (h : IsD w p v l n) (hp : w'.heap[p]? = w.heap[p]?) (hk : ∀ (k : Nat) (cur : Array Value), v.ownBlock = some k → w.heap[k]? = some (.cells cur 63 (0, 0)) → w'.heap[k]? = w.heap[k]?) : IsD w' p v l n := ⟨hp.trans h.head, h.r.same hk⟩
theorem IsD.next {w w' : World} {p : Nat} {v : Value} {l : List Sn} {n : Int} (h : IsD w p v l n) (k : Below w.heap.size w w') : IsD w' p v l n := ⟨(k.block p (lt_of_heap h.head)).trans h.head, h.r.next k⟩
theorem IsD.c0 {w : World} {p : Nat} {v : Value} {l : List Sn} {n : Int} (h : IsD w p v l n) : w.cell? ⟨p, 0, none⟩ = some v := by rw [cell_of_row w p 0 _ _ _ h.head]; rfl
theorem IsD.c1 {w : World} {p : Nat} {v : Value} {l : List Sn} {n : Int} (h : IsD w p v l n) : w.cell? ⟨p, 1, none⟩ = some (.int .i64 n) := by rw [cell_of_row w p 1 _ _ _ h.head]; rfl
theorem IsD.fz {w : World} {p : Nat} {v : Value} {l : List Sn} {n : Int} (h : IsD w p v l n) (j : Nat) : w.frozen? ⟨p, j, none⟩ = false := frozen_of_row w p j _ _ h.head
theorem isR_set {w : World} {p o : Nat} {u v v0 : Value} {l : List Sn} {n : Value} (hp : w.heap[p]? = some (.cells #[v0, n] 36 (0, 0))) (h : IsR w v l) : IsR (w.setCell ⟨p, o, none⟩ u) v l := h.same (fun k cur _ hc => heap_setCell_other _ _ _ _ (by
  show ¬ k = p
  rintro rfl
  rw [hp] at hc
  simp at hc))
theorem IsD.set0 {w : World} {p : Nat} {v v' : Value} {l l' : List Sn} {n : Int} (h : IsD w p v l n) (h' : IsR w v' l') : IsD (w.setCell ⟨p, 0, none⟩ v') p v' l' n := ⟨by rw [heap_setCell_same w p 0 _ _ _ h.head]; rfl, isR_set h.head h'⟩
theorem IsD.set1 {w : World} {p : Nat} {v : Value} {l : List Sn} {n : Int} (h : IsD w p v l n) (m : Int) : IsD (w.setCell ⟨p, 1, none⟩ (.int .i64 m)) p v l m := ⟨by rw [heap_setCell_same w p 1 _ _ _ h.head]; rfl, isR_set h.head h.r⟩

set_option linter.unusedSimpArgs false in
set_option maxHeartbeats 4000000 in
set_option maxRecDepth 100000 in
theorem rahead_any (x y : Sn) (w : World) : Calls Try.prog 32 #[.agg x.A, .agg y.A] w fun e w' => e = .returned (.bool (aheadB x y)) ∧ Below w.heap.size w w' := by
  have B1 := fun w => refBefore_any x.i x.n x.d0 x.d1 x.d2 x.d3 x.d4 x.d5 x.d6 x.d7 x.r y.i y.n y.d0 y.d1 y.d2 y.d3 y.d4 y.d5 y.d6 y.d7 y.r w
  have B2 := fun w => refBefore_any y.i y.n y.d0 y.d1 y.d2 y.d3 y.d4 y.d5 y.d6 y.d7 y.r x.i x.n x.d0 x.d1 x.d2 x.d3 x.d4 x.d5 x.d6 x.d7 x.r w
  unfold aheadB
  have BA : Below w.heap.size w ((w.alloc (.cells x.A 63)).alloc (.cells y.A 63)) := Below.al (Below.al (Below.refl _ _) _) _
  generalize befB x.i x.r y.i y.r = b1 at *
  generalize befB y.i y.r x.i x.r = b2 at *
  cases b1 with
  | true =>
    go_enter Try.func32, Try.ntmps32
    go_wp2_with fail
    refine (B1 _).mono ?_
    rintro e z ⟨rfl, bz⟩
    go_wp2_with fail
    go_ret
    exact ⟨rfl, Below.andThen BA bz⟩
  | false =>
    go_enter Try.func32, Try.ntmps32
    go_wp2_with fail
    refine (B1 _).mono ?_
    rintro e z ⟨rfl, bz⟩
    have kz : Kp [] _ z := Kp.of bz
    have xc1 := kz.cell (b := w.heap.size) (o := 1) (v := .int .u16 x.i) (by simp [go_sem]) (by simp)
    have xc2 := kz.cell (b := w.heap.size) (o := 2) (v := .int .i64 x.n) (by simp [go_sem]) (by simp)
    have xc3 := kz.cell (b := w.heap.size) (o := 3) (v := .int .u8 x.d0) (by simp [go_sem]) (by simp)
    have xc4 := kz.cell (b := w.heap.size) (o := 4) (v := .int .u8 x.d1) (by simp [go_sem]) (by simp)
    have xc5 := kz.cell (b := w.heap.size) (o := 5) (v := .int .u8 x.d2) (by simp [go_sem]) (by simp)
    have xc6 := kz.cell (b := w.heap.size) (o := 6) (v := .int .u8 x.d3) (by simp [go_sem]) (by simp)
    have xc7 := kz.cell (b := w.heap.size) (o := 7) (v := .int .u8 x.d4) (by simp [go_sem]) (by simp)
    have xc8 := kz.cell (b := w.heap.size) (o := 8) (v := .int .u8 x.d5) (by simp [go_sem]) (by simp)
    have xc9 := kz.cell (b := w.heap.size) (o := 9) (v := .int .u8 x.d6) (by simp [go_sem]) (by simp)
    have xc10 := kz.cell (b := w.heap.size) (o := 10) (v := .int .u8 x.d7) (by simp [go_sem]) (by simp)
    have xc11 := kz.cell (b := w.heap.size) (o := 11) (v := .bool x.r) (by simp [go_sem]) (by simp)
    have xc12 := kz.cell (b := w.heap.size) (o := 12) (v := .int .i64 x.nm) (by simp [go_sem]) (by simp)
    have yc1 := kz.cell (b := w.heap.size + 1) (o := 1) (v := .int .u16 y.i) (by simp [go_sem]) (by simp)
    have yc2 := kz.cell (b := w.heap.size + 1) (o := 2) (v := .int .i64 y.n) (by simp [go_sem]) (by simp)
    have yc3 := kz.cell (b := w.heap.size + 1) (o := 3) (v := .int .u8 y.d0) (by simp [go_sem]) (by simp)
    have yc4 := kz.cell (b := w.heap.size + 1) (o := 4) (v := .int .u8 y.d1) (by simp [go_sem]) (by simp)
    have yc5 := kz.cell (b := w.heap.size + 1) (o := 5) (v := .int .u8 y.d2) (by simp [go_sem]) (by simp)
    have yc6 := kz.cell (b := w.heap.size + 1) (o := 6) (v := .int .u8 y.d3) (by simp [go_sem]) (by simp)
    have yc7 := kz.cell (b := w.heap.size + 1) (o := 7) (v := .int .u8 y.d4) (by simp [go_sem]) (by simp)
    have yc8 := kz.cell (b := w.heap.size + 1) (o := 8) (v := .int .u8 y.d5) (by simp [go_sem]) (by simp)
    have yc9 := kz.cell (b := w.heap.size + 1) (o := 9) (v := .int .u8 y.d6) (by simp [go_sem]) (by simp)
    have yc10 := kz.cell (b := w.heap.size + 1) (o := 10) (v := .int .u8 y.d7) (by simp [go_sem]) (by simp)
    have yc11 := kz.cell (b := w.heap.size + 1) (o := 11) (v := .bool y.r) (by simp [go_sem]) (by simp)
    have yc12 := kz.cell (b := w.heap.size + 1) (o := 12) (v := .int .i64 y.nm) (by simp [go_sem]) (by simp)
    have BZ : Below w.heap.size w z := Below.andThen BA bz
    clear bz kz BA B1
    go_wp2_with fail
    refine (B2 _).mono ?_
    rintro e y2 ⟨rfl, by2⟩
    have ky : Kp [] _ y2 := Kp.of by2
    have n1 := ky.cell xc12 (by simp)
    have n2 := ky.cell yc12 (by simp)
    have BY : Below w.heap.size w y2 := Below.andThen BZ by2
    clear by2 ky BZ B2 xc1 xc2 xc3 xc4 xc5 xc6 xc7 xc8 xc9 xc10 xc11 xc12 yc1 yc2 yc3 yc4 yc5 yc6 yc7 yc8 yc9 yc10 yc11 yc12
    cases b2 with
    | true =>
      go_wp2_with fail
      go_ret
      exact ⟨rfl, BY⟩
    | false =>
      go_wp2_with fail
      go_ret
      exact ⟨rfl, BY⟩
#print axioms rahead_any

set_option linter.unusedSimpArgs false in
set_option maxHeartbeats 4000000 in
set_option maxRecDepth 100000 in
theorem rnext_none {w : World} {p : Nat} {v : Value} {n : Int} (h : IsD w p v [] n) : Calls Try.prog 21 #[.pointer (some ⟨p, 0, none⟩)] w fun e w' => e = .returned (.tuple #[.agg #[.int .i64 0, .int .u16 0, .int .i64 0, .int .u8 0, .int .u8 0, .int .u8 0, .int .u8 0, .int .u8 0, .int .u8 0, .int .u8 0, .int .u8 0, .bool false, .int .i64 0], .bool false]) ∧ Below w.heap.size w w' := by
  obtain ⟨a, c, rfl⟩ : ∃ a c, v = .slice a 0 c := by
    rcases h.r.at_ with ⟨h1, _⟩ | ⟨g, o, cap, _, h1, _⟩
    · exact ⟨none, 0, h1⟩
    · exact ⟨_, cap, h1⟩
  have k0 := fun o => (h.next (Below.al (Below.refl w.heap.size w) o)).c0
  clear h
  go_enter Try.func21, Try.ntmps21
  go_wp2_with fail
  exact bodyPost_ret (v := .tuple #[.agg #[.int .i64 0, .int .u16 0, .int .i64 0, .int .u8 0, .int .u8 0, .int .u8 0, .int .u8 0, .int .u8 0, .int .u8 0, .int .u8 0, .int .u8 0, .bool false, .int .i64 0], .bool false]) (by simp [results, Try.results21, go_sem]) rfl ⟨rfl, Below.al (Below.refl _ _) _⟩
#print axioms rnext_none

set_option linter.unusedSimpArgs false in
set_option maxHeartbeats 4000000 in
set_option maxRecDepth 100000 in
theorem rnext_some {w : World} {p : Nat} {v : Value} {x : Sn} {l : List Sn} {n : Int} (h : IsD w p v (x :: l) n) : Calls Try.prog 21 #[.pointer (some ⟨p, 0, none⟩)] w fun e w' => e = .returned (.tuple #[.agg x.A, .bool true]) ∧ (∃ v', IsD w' p v' l n) ∧ Kp [p] w w' := by
  have hpl := lt_of_heap h.head
  rcases h.r.at_ with ⟨_, h2⟩ | ⟨g, o, cap, cur, rfl, hcap, hmax, hgb, hC⟩
  · cases h2
  obtain ⟨N, hN⟩ : ∃ N, Hid (N = l.length) := ⟨_, rfl⟩
  have hl1 : (x :: l).length = N + 1 := by rw [hN.out]; rfl
  have hgl := lt_of_heap hgb
  have hgp : g ≠ p := by rintro rfl; rw [h.head] at hgb; simp at hgb
  rw [hl1] at h hcap
  have k0 := fun o => (h.next (Below.al (Below.refl w.heap.size w) o)).c0
  have LD : ∀ o1, (loadVar 63 ⟨g, o, none⟩).run Try.prog (w.alloc o1) = .ok (.agg x.A) (w.alloc o1) := fun o1 => by
    have := loadR (hC.below (Below.al (Below.refl w.heap.size w) o1)) 0 x rfl
    simpa using this
  obtain ⟨o2, ho2⟩ : ∃ o2, Hid (o2 = if cap = 1 then o else o + 13) := ⟨_, rfl⟩
  have SLI : ∀ w, (Instr.slice 34 (.slice (some ⟨g, o, none⟩) (N + 1) cap) (some (.int .i64 1)) none none).run Try.prog w = .ok (.slice (some ⟨g, o2, none⟩) N (cap - 1)) w := fun w => by
    obtain ⟨i0, hi, hz0, hz1, hz2⟩ := info_parts infoR
    have c1 : (1 : Int) ≤ (N : Int) + 1 := by omega
    rw [ho2.out]
    clear LD k0 hC h
    by_cases c2 : cap = 1
    · rw [if_pos c2]
      go_simp
      all_goals try omega
    · rw [if_neg c2]
      go_simp
      all_goals try omega
  have R1 : IsR w (.slice (some ⟨g, o2, none⟩) N (cap - 1)) l := ⟨.inr ⟨g, o2, cap - 1, cur, by rw [hN.out], by have := hN.out; omega, by omega, hgb, by
      rw [ho2.out]
      by_cases c2 : cap = 1
      · have e0 : l = [] := List.eq_nil_of_length_eq_zero (by have := hN.out; omega)
        rw [e0]
        intro i y hy
        simp at hy
      · rw [if_neg c2]
        exact hC.tail⟩⟩
  have H2 : IsD (w.setCell ⟨p, 0, none⟩ (.slice (some ⟨g, o2, none⟩) N (cap - 1))) p (.slice (some ⟨g, o2, none⟩) N (cap - 1)) l n := ⟨by rw [heap_setCell_same w p 0 _ _ _ h.head]; rfl, isR_set h.head R1⟩
  have RES : Hid (∀ o1 o2', (∃ v', IsD (((w.setCell ⟨p, 0, none⟩ (.slice (some ⟨g, o2, none⟩) N (cap - 1))).alloc o1).alloc o2') p v' l n) ∧ Kp [p] w (((w.setCell ⟨p, 0, none⟩ (.slice (some ⟨g, o2, none⟩) N (cap - 1))).alloc o1).alloc o2')) := fun o1 o2' => ⟨⟨_, (H2.next (Below.al (Below.refl _ _) o1)).next (Below.al (Below.refl _ _) o2')⟩, (((Kp.refl [p] w).set _ _ (.inl (by simp))).al _).al _⟩
  have f0 : ∀ o1 o2', ((w.alloc o1).alloc o2').frozen? ⟨p, 0, none⟩ = false := fun o1 o2' => ((h.next (Below.al (Below.refl w.heap.size w) o1)).next (Below.al (Below.refl _ _) o2')).fz 0
  have k1 : ∀ o1 o2', ((w.alloc o1).alloc o2').cell? ⟨p, 0, none⟩ = some (.slice (some ⟨g, o, none⟩) (N + 1) cap) := fun o1 o2' => ((h.next (Below.al (Below.refl w.heap.size w) o1)).next (Below.al (Below.refl _ _) o2')).c0
  have nb0 : ¬ w.heap.size = p := by omega
  have nb1 : ¬ w.heap.size + 1 = p := by omega
  have nb2 : ¬ p = w.heap.size := by omega
  have nb3 : ¬ p = w.heap.size + 1 := by omega
  clear h hC hgb hcap hmax R1 H2
  go_enter Try.func21, Try.ntmps21
  go_wp2_with (refine wpList_load_by rfl 63 (.tmp 16) rfl _ _ rfl (LD _) ?_)
  exact bodyPost_ret (v := .tuple #[.agg x.A, .bool true]) (by simp [results, Try.results21, go_sem]) rfl ⟨rfl, RES.out _ _⟩
#print axioms rnext_some
end Go.Proofs.Ytndlpjfofjikeaa
