/-
  The law's own rows of calls: many, cuts.
  The walk of JournalKnown.
-/
import Derived.Test.YtgpbmccjcjoijaaKlb
import Derived.Test.YtgpbmccjcjoijaaKof
import Derived.Test.YtgpbmccjcjoijaaKju
namespace Go.Proofs.Ytgpbmccjcjoijaa
open Go.RowKit

/-- A call's cells; where its bytes lie. -/
def ocell (e : Opx × Option Nat) : List Value := [.int .u8 e.1.kind, .int .u8 e.1.grp, .slice (e.2.map fun g => ⟨g, 0, none⟩) e.1.bs.length e.1.bs.length, .int .u16 e.1.more]
def orow (w : World) (e : Opx × Option Nat) : Prop := match e.2 with
  | none => e.1.bs = []
  | some g => w.heap[g]? = some (.cells (e.1.bs.map (Value.int .u8)).toArray 5 (0, 0))
theorem orow.row {w : World} {e : Opx × Option Nat} (h : orow w e) (ho : Oct e.1.bs) : Row w (e.2.map fun g => ⟨g, 0, none⟩) e.1.bs.length e.1.bs := by
  obtain ⟨x, g⟩ := e
  cases g with
  | none =>
    have h : x.bs = [] := h
    show Row w none x.bs.length x.bs
    rw [h]; exact row_nil w
  | some g =>
    have h : w.heap[g]? = some (.cells (x.bs.map (Value.int .u8)).toArray 5 (0, 0)) := h
    refine ⟨rfl, ho, fun _ => ⟨g, 0, rfl, fun i hi => ?_⟩⟩
    rw [Nat.zero_add, cell_of_row w _ _ _ _ _ h]
    simp [List.getD_eq_getElem?_getD, hi]
theorem ocells_at : ∀ (D : List (Opx × Option Nat)) (i : Nat) (e : Opx × Option Nat) (j : Nat), D[i]? = some e → j < 4 → (D.flatMap ocell)[i * 4 + j]? = (ocell e)[j]?
  | [], _, _, _, h, _ => by simp at h
  | d :: D, 0, e, j, h, hj => by
    obtain rfl : d = e := by simpa using h
    rw [List.flatMap_cons, Nat.zero_mul, Nat.zero_add, List.getElem?_append_left (by simp [ocell]; omega)]
  | d :: D, i + 1, e, j, h, hj => by
    have := ocells_at D i e j (by simpa using h) hj
    rw [List.flatMap_cons, List.getElem?_append_right (by simp [ocell]; omega), ← this]
    congr 1
    simp [ocell]; omega
/-- Calls that were put one behind the other. -/
structure OD (base : Nat) (w : World) (v : Value) (D : List (Opx × Option Nat)) : Prop where
  own : w.ownsRow base 36 4 v D.length (D.flatMap ocell)
  rows : ∀ e ∈ D, e.1.Wk ∧ orow w e
theorem orow.lt {w : World} {x : Opx} {g : Nat} (h : orow w (x, some g)) : g < w.heap.size := lt_of_heap h
theorem orow.keep {w w' : World} {e : Opx × Option Nat} (h : orow w e) (hb : ∀ g, e.2 = some g → w'.heap[g]? = w.heap[g]?) : orow w' e := by
  obtain ⟨x, g⟩ := e
  cases g with
  | none => exact h
  | some g => exact (hb g rfl).trans h
theorem OD.al {base : Nat} {w : World} {v : Value} {D : List (Opx × Option Nat)} (h : OD base w v D) (o : Obj) : OD base (w.alloc o) v D := by
  have hb : ∀ g, g < w.heap.size → (w.alloc o).heap[g]? = w.heap[g]? := fun g hg => Below.heap_alloc _ _ _ hg
  refine ⟨?_, fun e he => ⟨(h.rows e he).1, (h.rows e he).2.keep (fun g hg => ?_)⟩⟩
  · obtain ⟨h1, h2⟩ := h.own
    refine ⟨h1, h2.elim .inl fun ⟨g, cap, cur, e, hg, hh, r⟩ => .inr ⟨g, cap, cur, e, hg, (hb g (lt_of_heap hh)).trans hh, r⟩⟩
  · obtain ⟨x, g'⟩ := e
    cases hg
    exact hb g (h.rows _ he).2.lt
theorem OD.put {base : Nat} {w w' : World} {v v' : Value} {D N : List (Opx × Option Nat)} (h : OD base w v D) (hn : ∀ e ∈ N, e.1.Wk ∧ orow w e) (ho : w'.ownsRow base 36 4 v' (D.length + N.length) (D.flatMap ocell ++ N.flatMap ocell)) (hg : w.grownBy w' v.ownBlock) : OD base w' v' (D ++ N) := by
  refine ⟨by rw [List.length_append, List.flatMap_append]; exact ho, fun e he => ?_⟩
  have hh : e.1.Wk ∧ orow w e := (List.mem_append.1 he).elim (h.rows e) (hn e)
  refine ⟨hh.1, hh.2.keep (fun g eg => ?_)⟩
  obtain ⟨x, g'⟩ := e
  cases eg
  have h0 : w.heap[g]? = some (.cells (x.bs.map (Value.int .u8)).toArray 5 (0, 0)) := hh.2
  refine hg.block g (lt_of_heap h0) (fun e => ?_)
  obtain ⟨_, h2⟩ := h.own
  rcases h2 with ⟨rfl, _⟩ | ⟨k, cap, cur, rfl, _, hk, _⟩
  · cases e
  · cases e
    rw [hk] at h0
    simp at h0
theorem OD.isOx {base : Nat} {w : World} {v : Value} {D : List (Opx × Option Nat)} (h : OD base w v D) : ∃ a cap, v = .slice a D.length cap ∧ IsOx w a D.length (D.map (·.1)) := by
  obtain ⟨h1, h2⟩ := h.own
  rcases h2 with ⟨rfl, h0⟩ | ⟨g, cap, cur, rfl, hb, hh, hn, hm, hs, ht⟩
  · obtain rfl : D = [] := List.eq_nil_of_length_eq_zero h0
    exact ⟨none, 0, rfl, rfl, (fun x hx => by simp at hx), fun hp => absurd hp (by simp)⟩
  · refine ⟨_, cap, rfl, by simp, fun x hx => ?_, fun hp => ⟨g, 0, rfl, fun i x hx => ?_⟩⟩
    · obtain ⟨e, he, rfl⟩ := List.mem_map.1 hx
      exact (h.rows e he).1
    · rw [List.getElem?_map] at hx
      obtain ⟨e, he, rfl⟩ := Option.map_eq_some_iff.1 hx
      have hi : i < D.length := (List.getElem?_eq_some_iff.1 he).1
      have cell : ∀ j, j < 4 → w.cell? ⟨g, 0 + i * 4 + j, none⟩ = (ocell e)[j]? := fun j hj => by
        rw [Nat.zero_add, cell_of_row w _ _ _ _ _ hh, ← ocells_at D i e j he hj, ← ht, List.getElem?_take_of_lt (by omega), Array.getElem?_toList]
      have hw := h.rows e (List.mem_of_getElem? he)
      exact ⟨_, _, cell 0 (by omega), cell 1 (by omega), cell 2 (by omega), cell 3 (by omega), hw.2.row hw.1.oct⟩
theorem infoOp : (Try.prog.info? 36).map (fun i => (i.zero, i.size, i.bytes)) = some (some (.agg #[.int .u8 0, .int .u8 0, .slice none 0 0, .int .u16 0]), 4, 40) := by kernel_rfl
def OpsPost (w : World) (n : Nat) (e : Ending) (w' : World) : Prop := (∃ a cap l, e = .returned (.slice a n cap) ∧ IsOx w' a n l) ∧ Below w.heap.size w w'
theorem u8w (z : Int) (h0 : 0 ≤ z) (h1 : z < 256) : IntKind.u8.wrap z = z := by simp [IntKind.wrap, IntKind.bits, IntKind.signed]; omega
theorem u16w (z : Int) (h0 : 0 ≤ z) (h1 : z < 65536) : IntKind.u16.wrap z = z := by simp [IntKind.wrap, IntKind.bits, IntKind.signed]; omega

set_option linter.unusedSimpArgs false in
set_option maxHeartbeats 4000000 in
set_option maxRecDepth 100000 in
theorem many_any (m : Nat) (hm : m ≤ 10) (w : World) :
    Calls Try.prog 30 #[.int .i64 m] w fun e w' => OpsPost w 50 e w' := by
  obtain ⟨i0, hi0, hz0, hz1, hz2⟩ := info_parts infoOp
  go_enter Try.func30, Try.ntmps30
  go_wp2_with fail
  go_loopw [3, 4] (fun v u wr => ∃ (i : Nat) (D : List (Opx × Option Nat)), i ≤ 50 ∧ D.length = i ∧ u = .int .i64 i ∧ Below w.heap.size w wr ∧ OD w.heap.size wr v D) (fun _ u _ => 50 - (intOf u).toNat)
  case atStart => exact ⟨0, [], by omega, rfl, rfl, Below.refl _ _, World.ownsRow_nil _ _ _ _, fun e he => by simp at he⟩
  case round =>
    obtain ⟨i, D, hi, hD, rfl, hb, hO⟩ := hrel
    have HO : Hid (OD w.heap.size wr u3 D) := hO
    have HB : Hid (Below w.heap.size w wr) := hb
    by_cases hlt : i < 50
    · have g1 : (i : Int) < 50 := by omega
      have t1 : (i : Int).tmod 5 = ((i % 5 : Nat) : Int) := by rw [Int.tmod_eq_emod_of_nonneg (by omega)]; omega
      have t2 : ((i : Int) * 7).tmod 16 = ((i * 7 % 16 : Nat) : Int) := by rw [Int.tmod_eq_emod_of_nonneg (by omega)]; omega
      obtain ⟨P, hP⟩ : ∃ P : Nat, Hid ((i : Int) * (m : Int) * 13 = (P : Int) ∧ P < 100000 ∧ (i : Int) * (m : Int) < 10000 ∧ 0 ≤ (i : Int) * (m : Int)) := by
        have h1 : i * m ≤ 50 * 10 := Nat.mul_le_mul (by omega) hm
        refine ⟨i * m * 13, by push_cast; rfl, by omega, ?_, ?_⟩
        · have : (i : Int) * (m : Int) = ((i * m : Nat) : Int) := by push_cast; rfl
          omega
        · have : (i : Int) * (m : Int) = ((i * m : Nat) : Int) := by push_cast; rfl
          omega
      obtain ⟨hP1, hP2, hP3, hP4⟩ := hP.out
      have t3 : ((P : Int)).tmod 200 = ((P % 200 : Nat) : Int) := by rw [Int.tmod_eq_emod_of_nonneg (by omega)]; omega
      have w1 : IntKind.i64.wrap ((i : Int) * 7) = (i : Int) * 7 := wrap64 _ (by omega) (by omega)
      have w2 : IntKind.i64.wrap ((i : Int) * (m : Int)) = (i : Int) * (m : Int) := wrap64 _ hP4 (by omega)
      have w3 : IntKind.i64.wrap (P : Int) = (P : Int) := wrap64 _ (by omega) (by omega)
      have v1 := u8w ((i % 5 : Nat) : Int) (by omega) (by omega)
      have v2 := u8w ((i * 7 % 16 : Nat) : Int) (by omega) (by omega)
      have v3 := u8w (i : Int) (by omega) (by omega)
      have v4 := u16w ((P % 200 : Nat) : Int) (by omega) (by omega)
      generalize hA1 : ((i % 5 : Nat) : Int) = A1 at *
      generalize hA2 : ((i * 7 % 16 : Nat) : Int) = A2 at *
      generalize hA3 : ((P % 200 : Nat) : Int) = A3 at *
      have HA : Hid ((0 ≤ A1 ∧ A1 < 256) ∧ (0 ≤ A2 ∧ A2 < 256) ∧ (0 ≤ A3 ∧ A3 < 65536)) := ⟨by omega, by omega, by omega⟩
      have OZ : Hid (OD w.heap.size ((wr.alloc (.cells #[.int .u8 (i : Int)] 5)).alloc (.cells #[.int .u8 A1, .int .u8 A2, .slice (some ⟨wr.heap.size, 0, none⟩) 1 1, .int .u16 A3] 36)) u3 D) := (HO.out.al _).al _
      have hb2 : Below w.heap.size w ((wr.alloc (.cells #[.int .u8 (i : Int)] 5)).alloc (.cells #[.int .u8 A1, .int .u8 A2, .slice (some ⟨wr.heap.size, 0, none⟩) 1 1, .int .u16 A3] 36)) := Below.al (Below.al HB.out _) _
      have HN1 : Hid (∀ e ∈ [((⟨A1, A2, [(i : Int)], A3⟩ : Opx), some wr.heap.size)], e.1.Wk ∧ orow ((wr.alloc (.cells #[.int .u8 (i : Int)] 5)).alloc (.cells #[.int .u8 A1, .int .u8 A2, .slice (some ⟨wr.heap.size, 0, none⟩) 1 1, .int .u16 A3] 36)) e) := fun e he => by
        obtain rfl : e = _ := by simpa using he
        refine ⟨⟨HA.out.1, HA.out.2.1, fun z hz => ?_, by simp, HA.out.2.2⟩, ?_⟩
        · obtain rfl : z = (i : Int) := by simpa using hz
          omega
        · exact (Below.heap_alloc _ _ _ (by simp)).trans (heap_alloc_new wr _)
      have NW : ∀ j u, ([Value.int .u8 A1, .int .u8 A2, .slice (some ⟨wr.heap.size, 0, none⟩) 1 1, .int .u16 A3])[j]? = some u → ((wr.alloc (.cells #[.int .u8 (i : Int)] 5)).alloc (.cells #[.int .u8 A1, .int .u8 A2, .slice (some ⟨wr.heap.size, 0, none⟩) 1 1, .int .u16 A3] 36)).cell? ((⟨wr.heap.size + 1, 0, none⟩ : Addr).add j) = some u := fun j u hu => by
        have hn := heap_alloc_new (wr.alloc (.cells #[.int .u8 (i : Int)] 5)) (.cells #[.int .u8 A1, .int .u8 A2, .slice (some ⟨wr.heap.size, 0, none⟩) 1 1, .int .u16 A3] 36)
        rw [World.size_alloc] at hn
        rw [Addr.add_lit, Nat.zero_add, cell_of_row _ _ _ _ _ _ hn, List.getElem?_toArray]
        exact hu
      have o1 : ∀ v ∈ [Value.int .u8 A1, .int .u8 A2, .slice (some ⟨wr.heap.size, 0, none⟩) 1 1, .int .u16 A3], v.oneCell' = true := fun v hv => by
        simp only [List.mem_cons, List.not_mem_nil, or_false] at hv
        rcases hv with rfl | rfl | rfl | rfl <;> rfl
      clear hA1 hA2 hA3 hO hb
      go_wp2_with (at_builtin; refine wpList_append_own _ rfl _ _ 22 rfl w.heap.size 36 i0 _ 4 40 Try.underlying22 hi0 hz0 hz1 hz2 rfl (by decide) _ _ _ rfl OZ.out.own ⟨wr.heap.size + 1, 0, none⟩ 1 1 [Value.int .u8 A1, .int .u8 A2, .slice (some ⟨wr.heap.size, 0, none⟩) 1 1, .int .u16 A3] rfl rfl NW o1 (by unfold maxLen; omega) (by omega) hb2.size ?_)
      intro v' w2 hown' hgrow _
      have hb3 : Below w.heap.size w w2 := hb2.grown hgrow hb2.size (fun j hj => (OZ.out.own.lt j hj).1)
      have OD2 : Hid (OD w.heap.size w2 v' (D ++ [((⟨A1, A2, [(i : Int)], A3⟩ : Opx), some wr.heap.size)])) := OZ.out.put HN1.out (show w2.ownsRow w.heap.size 36 4 v' (D.length + 1) (D.flatMap ocell ++ [Value.int .u8 A1, .int .u8 A2, .slice (some ⟨wr.heap.size, 0, none⟩) 1 1, .int .u16 A3]) from by rw [hD]; exact hown') hgrow
      clear hown' hgrow NW o1 OZ hb2
      go_wp2_with fail
      exact ⟨⟨i + 1, _, by omega, by simp [hD], by go_num, hb3, OD2.out⟩, by simp [intOf]; omega⟩
    · obtain rfl : i = 50 := by omega
      obtain ⟨a, cap, rfl, hx⟩ := hO.isOx
      rw [hD] at hx
      rw [hD]
      have HX : Hid (IsOx wr a 50 (D.map (·.1))) := hx
      clear hO hx HO hb
      go_wp2_with fail
      go_ret
      exact ⟨⟨_, _, _, rfl, HX.out⟩, HB.out⟩

set_option linter.unusedSimpArgs false in
set_option maxHeartbeats 4000000 in
set_option maxRecDepth 100000 in
theorem cuts_any (w : World) :
    Calls Try.prog 31 #[] w fun e w' => OpsPost w 48 e w' := by
  obtain ⟨i0, hi0, hz0, hz1, hz2⟩ := info_parts infoOp
  go_enter Try.func31, Try.ntmps31
  go_wp2_with fail
  go_loopw [1, 2] (fun v u wr => ∃ (i : Nat) (D : List (Opx × Option Nat)), i ≤ 24 ∧ D.length = 2 * i ∧ u = .int .i64 i ∧ Below w.heap.size w wr ∧ OD w.heap.size wr v D) (fun _ u _ => 24 - (intOf u).toNat)
  case atStart => exact ⟨0, [], by omega, rfl, rfl, Below.refl _ _, World.ownsRow_nil _ _ _ _, fun e he => by simp at he⟩
  case round =>
    obtain ⟨i, D, hi, hD, rfl, hb, hO⟩ := hrel
    have HO : Hid (OD w.heap.size wr u1 D) := hO
    have HB : Hid (Below w.heap.size w wr) := hb
    by_cases hlt : i < 24
    · have g1 : (i : Int) < 24 := by omega
      have t1 : (i : Int).tmod 3 = ((i % 3 : Nat) : Int) := by rw [Int.tmod_eq_emod_of_nonneg (by omega)]; omega
      have w1 : IntKind.i64.wrap ((i : Int) * 3) = (i : Int) * 3 := wrap64 _ (by omega) (by omega)
      have w2 : IntKind.i64.wrap ((i : Int) * 9) = (i : Int) * 9 := wrap64 _ (by omega) (by omega)
      have v1 := u8w ((i % 3 : Nat) : Int) (by omega) (by omega)
      have v3 := u8w (i : Int) (by omega) (by omega)
      have v4 := u16w ((i : Int) * 3) (by omega) (by omega)
      have v5 := u16w ((i : Int) * 9) (by omega) (by omega)
      generalize hA1 : ((i % 3 : Nat) : Int) = A1 at *
      have HA : Hid ((0 ≤ A1 ∧ A1 < 256) ∧ (0 ≤ (i : Int) * 3 ∧ (i : Int) * 3 < 65536) ∧ (0 ≤ (i : Int) * 9 ∧ (i : Int) * 9 < 65536)) := ⟨by omega, by omega, by omega⟩
      have OZ : Hid (OD w.heap.size ((wr.alloc (.cells #[.int .u8 (i : Int), .int .u8 255, .int .u8 0] 5)).alloc (.cells #[Value.int .u8 5, .int .u8 0, .slice none 0 0, .int .u16 ((i : Int) * 3), .int .u8 0, .int .u8 A1, .slice (some ⟨wr.heap.size, 0, none⟩) 3 3, .int .u16 ((i : Int) * 9)] 36)) u1 D) := (HO.out.al _).al _
      have hb2 : Below w.heap.size w ((wr.alloc (.cells #[.int .u8 (i : Int), .int .u8 255, .int .u8 0] 5)).alloc (.cells #[Value.int .u8 5, .int .u8 0, .slice none 0 0, .int .u16 ((i : Int) * 3), .int .u8 0, .int .u8 A1, .slice (some ⟨wr.heap.size, 0, none⟩) 3 3, .int .u16 ((i : Int) * 9)] 36)) := Below.al (Below.al HB.out _) _
      have HN1 : Hid (∀ e ∈ [((⟨5, 0, [], (i : Int) * 3⟩ : Opx), none), ((⟨0, A1, [(i : Int), 255, 0], (i : Int) * 9⟩ : Opx), some wr.heap.size)], e.1.Wk ∧ orow ((wr.alloc (.cells #[.int .u8 (i : Int), .int .u8 255, .int .u8 0] 5)).alloc (.cells #[Value.int .u8 5, .int .u8 0, .slice none 0 0, .int .u16 ((i : Int) * 3), .int .u8 0, .int .u8 A1, .slice (some ⟨wr.heap.size, 0, none⟩) 3 3, .int .u16 ((i : Int) * 9)] 36)) e) := fun e he => by
        simp only [List.mem_cons, List.not_mem_nil, or_false] at he
        rcases he with rfl | rfl
        · exact ⟨⟨by show (0 : Int) ≤ 5 ∧ (5 : Int) < 256; decide, by show (0 : Int) ≤ 0 ∧ (0 : Int) < 256; decide, oct_nil, by simp, HA.out.2.1⟩, rfl⟩
        · refine ⟨⟨by show (0 : Int) ≤ 0 ∧ (0 : Int) < 256; decide, HA.out.1, fun z hz => ?_, by simp, HA.out.2.2⟩, ?_⟩
          · simp only [List.mem_cons, List.not_mem_nil, or_false] at hz
            rcases hz with rfl | rfl | rfl <;> omega
          · exact (Below.heap_alloc _ _ _ (by simp)).trans (heap_alloc_new wr _)
      have NW : ∀ j u, ([Value.int .u8 5, .int .u8 0, .slice none 0 0, .int .u16 ((i : Int) * 3), .int .u8 0, .int .u8 A1, .slice (some ⟨wr.heap.size, 0, none⟩) 3 3, .int .u16 ((i : Int) * 9)])[j]? = some u → (((wr.alloc (.cells #[.int .u8 (i : Int), .int .u8 255, .int .u8 0] 5)).alloc (.cells #[Value.int .u8 5, .int .u8 0, .slice none 0 0, .int .u16 ((i : Int) * 3), .int .u8 0, .int .u8 A1, .slice (some ⟨wr.heap.size, 0, none⟩) 3 3, .int .u16 ((i : Int) * 9)] 36))).cell? ((⟨wr.heap.size + 1, 0, none⟩ : Addr).add j) = some u := fun j u hu => by
        have hn := heap_alloc_new (wr.alloc (.cells #[.int .u8 (i : Int), .int .u8 255, .int .u8 0] 5)) (.cells ([Value.int .u8 5, .int .u8 0, .slice none 0 0, .int .u16 ((i : Int) * 3), .int .u8 0, .int .u8 A1, .slice (some ⟨wr.heap.size, 0, none⟩) 3 3, .int .u16 ((i : Int) * 9)]).toArray 36)
        rw [World.size_alloc] at hn
        rw [Addr.add_lit, Nat.zero_add, cell_of_row _ _ _ _ _ _ hn, List.getElem?_toArray]
        exact hu
      have o1 : ∀ v ∈ [Value.int .u8 5, .int .u8 0, .slice none 0 0, .int .u16 ((i : Int) * 3), .int .u8 0, .int .u8 A1, .slice (some ⟨wr.heap.size, 0, none⟩) 3 3, .int .u16 ((i : Int) * 9)], v.oneCell' = true := fun v hv => by
        simp only [List.mem_cons, List.not_mem_nil, or_false] at hv
        rcases hv with rfl | rfl | rfl | rfl | rfl | rfl | rfl | rfl <;> rfl
      clear hA1 hO hb
      go_wp2_with (at_builtin; refine wpList_append_own _ rfl _ _ 22 rfl w.heap.size 36 i0 _ 4 40 Try.underlying22 hi0 hz0 hz1 hz2 rfl (by decide) _ _ _ rfl OZ.out.own ⟨wr.heap.size + 1, 0, none⟩ 2 2 ([Value.int .u8 5, .int .u8 0, .slice none 0 0, .int .u16 ((i : Int) * 3), .int .u8 0, .int .u8 A1, .slice (some ⟨wr.heap.size, 0, none⟩) 3 3, .int .u16 ((i : Int) * 9)]) rfl rfl NW o1 (by unfold maxLen; omega) (by omega) hb2.size ?_)
      intro v' w9 hown' hgrow _
      have hb3 : Below w.heap.size w w9 := hb2.grown hgrow hb2.size (fun j hj => (OZ.out.own.lt j hj).1)
      have OD2 : Hid (OD w.heap.size w9 v' (D ++ [((⟨5, 0, [], (i : Int) * 3⟩ : Opx), none), ((⟨0, A1, [(i : Int), 255, 0], (i : Int) * 9⟩ : Opx), some wr.heap.size)])) := OZ.out.put HN1.out (show w9.ownsRow w.heap.size 36 4 v' (D.length + 2) (D.flatMap ocell ++ [Value.int .u8 5, .int .u8 0, .slice none 0 0, .int .u16 ((i : Int) * 3), .int .u8 0, .int .u8 A1, .slice (some ⟨wr.heap.size, 0, none⟩) 3 3, .int .u16 ((i : Int) * 9)]) from by rw [hD]; exact hown') hgrow
      clear hown' hgrow NW o1 OZ hb2
      go_wp2_with fail
      exact ⟨⟨i + 1, _, by omega, by simp [hD]; omega, by go_num, hb3, OD2.out⟩, by simp [intOf]; omega⟩
    · obtain rfl : i = 24 := by omega
      obtain ⟨a, cap, rfl, hx⟩ := hO.isOx
      rw [hD] at hx
      rw [hD]
      have HX : Hid (IsOx wr a 48 (D.map (·.1))) := hx
      clear hO hx HO hb
      go_wp2_with fail
      go_ret
      exact ⟨⟨_, _, _, rfl, HX.out⟩, HB.out⟩
#print axioms cuts_any
#print axioms many_any
end Go.Proofs.Ytgpbmccjcjoijaa
namespace Go.Proofs.Ytgpbmccjcjoijaa
open Go.RowKit

set_option linter.unusedSimpArgs false in
set_option maxHeartbeats 16000000 in
set_option maxRecDepth 100000 in
theorem journalKnown_any (w : World) :
    Calls Try.prog 7 #[] w fun e w' => e = .returned (.bool true) ∧ Below w.heap.size w w' := by
  have NW := new_ok 4 (by omega) (by omega) w
  rw [show ((4 : Nat) : Int) = 4 from rfl] at NW
  go_enter Try.func7, Try.ntmps7
  go_wp2_with fail
  with_reducible refine NW.mono ?_
  rintro e U ⟨⟨p, B, rfl, hp, hB, hF⟩, hb⟩
  clear NW
  have HF : Hid (IsS U p B 4 4 (newS 4)) := hF
  have HU : Hid (Below w.heap.size w U) := hb
  have hlt := hF.lt
  have OP := open_ok hF rfl 0 2 (by omega) (by omega) [p, B] (by simp; omega)
  rw [show ((0 : Nat) : Int) = 0 from rfl, show ((2 : Nat) : Int) = 2 from rfl, show 2 / 2 = 1 from rfl] at OP
  clear hF hb
  go_wp2_with fail
  with_reducible refine OP.mono ?_
  rintro e V ⟨⟨q, rfl, hq, hJ⟩, hb⟩
  clear OP
  have HK0 : Hid (KS w V p B q all0 (opn (newS 4).cs 0 1) (newS 4) 0) := by
    have hs := HU.out.size
    have o := Go.Proofs.Ytgpbmccjcjoijaa.opened (first := 0) (count := 2) (n := 4) (s := newS 4) HF.out.oct HF.out.len (by omega) (by omega)
    exact ⟨Below.andThen HU.out hb, HF.out.next hb, ⟨by decide, by decide, by decide, by decide⟩, Jat.opened (count := 2) HF.out hb hq hJ (by omega) (by omega) (by simp) (by simp) (by simp; omega), o.2, rfl, rfl, new_blank 4 0 1, by simp; omega⟩
  clear hJ hb
  generalize (opn (newS 4).cs 0 1) = J0 at *
  generalize newS 4 = s0 at *
  have bX : Below V.heap.size V (V.alloc (.cells #[.int .u8 1, .int .u8 2, .int .u8 3] 5)) := Below.al (Below.refl _ _) _
  have rX : Row (V.alloc (.cells #[.int .u8 1, .int .u8 2, .int .u8 3] 5)) (some ⟨V.heap.size, 0, none⟩) 3 [1, 2, 3] := row_lit V _ _ [1, 2, 3] 3 rfl (fun x hx => by simp at hx; rcases hx with rfl | rfl | rfl <;> decide) rfl
  have C := (HK0.out.next bX).store (by omega) 1 (by omega) [1, 2, 3] (some ⟨V.heap.size, 0, none⟩) 3 3 rX (by omega) (fun _ b off e hm => by cases e; exact absurd (HK0.out.a.lt _ hm) (Nat.lt_irrefl _)) (E := 0) (al' := (take1 all0 ⟨2, 1, [1, 2, 3]⟩)) (by rfl)
  clear bX rX
  go_wp2_with fail
  with_reducible refine C.mono ?_
  rintro e W1 ⟨rfl, J1, s1, hK⟩
  have HK1 : Hid (KS w W1 p B q (take1 all0 ⟨2, 1, [1, 2, 3]⟩) J1 s1 70000) := hK
  clear C hK
  have C := HK1.out.restore (by omega) 1 (by omega) (E := 0) (al' := (List.set (take1 all0 ⟨2, 1, [1, 2, 3]⟩) 1 ⟨true, true, [1, 2, 3]⟩)) (by rfl)
  rw [show ((1 : Nat) : Int) = 1 from rfl] at C
  go_wp2_with fail
  with_reducible refine C.mono ?_
  rintro e W2 ⟨rfl, J2, s2, hK⟩
  have HK2 : Hid (KS w W2 p B q (List.set (take1 all0 ⟨2, 1, [1, 2, 3]⟩) 1 ⟨true, true, [1, 2, 3]⟩) J2 s2 140000) := hK
  clear C hK
  have C := HK2.out.restore (by omega) 1 (by omega) (E := 0) (al' := (List.set (take1 all0 ⟨2, 1, [1, 2, 3]⟩) 1 ⟨true, true, [1, 2, 3]⟩)) (by rfl)
  rw [show ((1 : Nat) : Int) = 1 from rfl] at C
  go_wp2_with fail
  with_reducible refine C.mono ?_
  rintro e W3 ⟨rfl, J3, s3, hK⟩
  have HK3 : Hid (KS w W3 p B q (List.set (take1 all0 ⟨2, 1, [1, 2, 3]⟩) 1 ⟨true, true, [1, 2, 3]⟩) J3 s3 210000) := hK
  clear C hK
  have C := HK3.out.restore (by omega) 0 (by omega) (E := 5) (al' := (List.set (take1 all0 ⟨2, 1, [1, 2, 3]⟩) 1 ⟨true, true, [1, 2, 3]⟩)) (by rfl)
  rw [show ((0 : Nat) : Int) = 0 from rfl] at C
  go_wp2_with fail
  with_reducible refine C.mono ?_
  rintro e W4 ⟨rfl, J4, s4, hK⟩
  have HK4 : Hid (KS w W4 p B q (List.set (take1 all0 ⟨2, 1, [1, 2, 3]⟩) 1 ⟨true, true, [1, 2, 3]⟩) J4 s4 280000) := hK
  clear C hK
  have C := HK4.out.restore_big 16 (by omega)
  go_wp2_with fail
  with_reducible refine C.mono ?_
  rintro e W5 ⟨rfl, J5, s5, hK⟩
  have HK5 : Hid (KS w W5 p B q (List.set (take1 all0 ⟨2, 1, [1, 2, 3]⟩) 1 ⟨true, true, [1, 2, 3]⟩) J5 s5 280000) := hK
  clear C hK
  have C := HK5.out.store (by omega) 16 (by omega) [] none 0 0 (row_nil _) (by omega) (fun hp => absurd hp (by omega)) (E := 62) (al' := (List.set (take1 all0 ⟨2, 1, [1, 2, 3]⟩) 1 ⟨true, true, [1, 2, 3]⟩)) ((by rfl))
  go_wp2_with fail
  with_reducible refine C.mono ?_
  rintro e W6 ⟨rfl, J6, s6, hK⟩
  have HK6 : Hid (KS w W6 p B q (List.set (take1 all0 ⟨2, 1, [1, 2, 3]⟩) 1 ⟨true, true, [1, 2, 3]⟩) J6 s6 350000) := hK
  clear C hK
  have MK : ∀ W : World, (Instr.makeSlice 33 (.int .i64 5000) (.int .i64 5000)).run Try.prog W = .ok (.slice (some ⟨W.heap.size, 0, none⟩) 5000 5000) (W.alloc (.cells (zr 5000) 5)) := fun W => mk8 5000 (by omega) W
  have C := (HK6.out.next (Below.al (Below.refl _ _) (.cells (zr 5000) 5))).store (by omega) 255 (by omega) (List.replicate 5000 0) (some ⟨W6.heap.size, 0, none⟩) 5000 5000 (zr_row 5000 W6) (by omega) (fun _ b off e hm => by cases e; exact absurd (HK6.out.a.lt _ hm) (Nat.lt_irrefl _)) (E := 62) (al' := (List.set (take1 all0 ⟨2, 1, [1, 2, 3]⟩) 1 ⟨true, true, [1, 2, 3]⟩)) (by unfold mStore; rw [if_pos (by decide)])
  go_wp2_with fail
  with_reducible refine C.mono ?_
  rintro e W7 ⟨rfl, J7, s7, hK⟩
  have HK7 : Hid (KS w W7 p B q (List.set (take1 all0 ⟨2, 1, [1, 2, 3]⟩) 1 ⟨true, true, [1, 2, 3]⟩) J7 s7 420000) := hK
  clear C hK
  clear MK
  have MK : ∀ W : World, (Instr.makeSlice 33 (.int .i64 4097) (.int .i64 4097)).run Try.prog W = .ok (.slice (some ⟨W.heap.size, 0, none⟩) 4097 4097) (W.alloc (.cells (zr 4097) 5)) := fun W => mk8 4097 (by omega) W
  have C := (HK7.out.next (Below.al (Below.refl _ _) (.cells (zr 4097) 5))).store (by omega) 0 (by omega) (List.replicate 4097 0) (some ⟨W7.heap.size, 0, none⟩) 4097 4097 (zr_row 4097 W7) (by omega) (fun _ b off e hm => by cases e; exact absurd (HK7.out.a.lt _ hm) (Nat.lt_irrefl _)) (E := 3) (al' := (List.set (take1 all0 ⟨2, 1, [1, 2, 3]⟩) 1 ⟨true, true, [1, 2, 3]⟩)) (by unfold mStore; rw [if_neg (by decide), if_pos (by simp)])
  go_wp2_with fail
  with_reducible refine C.mono ?_
  rintro e W8 ⟨rfl, J8, s8, hK⟩
  have HK8 : Hid (KS w W8 p B q (List.set (take1 all0 ⟨2, 1, [1, 2, 3]⟩) 1 ⟨true, true, [1, 2, 3]⟩) J8 s8 490000) := hK
  clear C hK
  clear MK
  obtain ⟨ss1, hJB1, hG1⟩ := HK8.out.a.js
  have LY := load_yes hJB1 hG1 1 ⟨true, true, [1, 2, 3]⟩ (by rw [HK8.out.all]; rfl) rfl
  rw [show ((1 : Nat) : Int) = 1 from rfl, show ([1, 2, 3] : List Int).length = 3 from rfl] at LY
  clear hJB1 hG1
  go_wp2_with fail
  with_reducible refine LY.mono ?_
  rintro e WL ⟨⟨ab, cb, rfl, hTb⟩, hbL⟩
  clear LY
  have HKL : Hid (KS w WL p B q (List.set (take1 all0 ⟨2, 1, [1, 2, 3]⟩) 1 ⟨true, true, [1, 2, 3]⟩) J8 s8 490000) := HK8.out.next hbL
  have HRb : Hid (Row WL ab 3 [1, 2, 3]) := hTb.row
  have ltL := HKL.out.fs.lt
  have OP := open_ok HKL.out.fs HKL.out.of 0 2 (by omega) (by omega) [p, B] (by simp; omega)
  rw [show ((0 : Nat) : Int) = 0 from rfl, show ((2 : Nat) : Int) = 2 from rfl, show 2 / 2 = 1 from rfl] at OP
  clear hTb hbL
  go_wp2_with fail
  with_reducible refine OP.mono ?_
  rintro e WO ⟨⟨q2, rfl, hq2, hJ2⟩, hbO⟩
  clear OP
  have HKO : Hid (KS w WO p B q2 all0 (opn s8.cs 0 1) s8 490000) := HKL.out.open hbO hq2 hJ2
  have HRO : Hid (Row WO ab 3 [1, 2, 3]) := HRb.out.next hbO
  obtain ⟨ss2, hJB2, hG2⟩ := HKO.out.a.js
  have CV := HRO.out.str cb
  rw [show strOfNums [1, 2, 3] = ⟨#[1, 2, 3]⟩ from rfl] at CV
  have e1 : ((⟨#[1, 2, 3]⟩ : ByteArray).toList == (⟨#[1, 2, 3]⟩ : ByteArray).toList) = true := by simp
  have GR := groups_any hJB2 hG2.n1 hG2.n2
  rw [HKO.out.all, show grpN all0 0 = [] from rfl] at GR
  clear hJ2 hbO hJB2 hG2
  go_wp2_with fail
  with_reducible refine GR.mono ?_
  rintro e WG ⟨⟨a9, c9, rfl, _⟩, hbG⟩
  clear GR CV e1
  have HKG : Hid (KS w WG p B q2 all0 (opn s8.cs 0 1) s8 490000) := HKO.out.next hbG
  clear hbG
  have C := HKG.out.restore (by omega) 1 (by omega) (E := 5) (al' := all0) (by rfl)
  rw [show ((1 : Nat) : Int) = 1 from rfl] at C
  go_wp2_with fail
  with_reducible refine C.mono ?_
  rintro e W9 ⟨rfl, J9, s9, hK⟩
  have HK9 : Hid (KS w W9 p B q2 all0 J9 s9 560000) := hK
  clear C hK
  have MK : ∀ W : World, (Instr.makeSlice 33 (.int .i64 1000) (.int .i64 1000)).run Try.prog W = .ok (.slice (some ⟨W.heap.size, 0, none⟩) 1000 1000) (W.alloc (.cells (zr 1000) 5)) := fun W => mk8 1000 (by omega) W
  have C := (HK9.out.next (Below.al (Below.refl _ _) (.cells (zr 1000) 5))).store (by omega) 0 (by omega) (List.replicate 1000 0) (some ⟨W9.heap.size, 0, none⟩) 1000 1000 (zr_row 1000 W9) (by omega) (fun _ b off e hm => by cases e; exact absurd (HK9.out.a.lt _ hm) (Nat.lt_irrefl _)) (E := 60) (al' := all0) (mstore_no _ (by simp) (by simp [rm]))
  go_wp2_with fail
  with_reducible refine C.mono ?_
  rintro e W10 ⟨rfl, J10, s10, hK⟩
  have HK10 : Hid (KS w W10 p B q2 all0 J10 s10 630000) := hK
  clear C hK
  clear MK
  have MK : ∀ W : World, (Instr.makeSlice 33 (.int .i64 997) (.int .i64 997)).run Try.prog W = .ok (.slice (some ⟨W.heap.size, 0, none⟩) 997 997) (W.alloc (.cells (zr 997) 5)) := fun W => mk8 997 (by omega) W
  have C := (HK10.out.next (Below.al (Below.refl _ _) (.cells (zr 997) 5))).store (by omega) 0 (by omega) (List.replicate 997 0) (some ⟨W10.heap.size, 0, none⟩) 997 997 (zr_row 997 W10) (by omega) (fun _ b off e hm => by cases e; exact absurd (HK10.out.a.lt _ hm) (Nat.lt_irrefl _)) (E := 60) (al' := all0) (mstore_no _ (by simp) (by simp [rm]))
  go_wp2_with fail
  with_reducible refine C.mono ?_
  rintro e W11 ⟨rfl, J11, s11, hK⟩
  have HK11 : Hid (KS w W11 p B q2 all0 J11 s11 700000) := hK
  clear C hK
  clear MK
  have MK : ∀ W : World, (Instr.makeSlice 33 (.int .i64 996) (.int .i64 996)).run Try.prog W = .ok (.slice (some ⟨W.heap.size, 0, none⟩) 996 996) (W.alloc (.cells (zr 996) 5)) := fun W => mk8 996 (by omega) W
  have C := (HK11.out.next (Below.al (Below.refl _ _) (.cells (zr 996) 5))).store (by omega) 0 (by omega) (List.replicate 996 0) (some ⟨W11.heap.size, 0, none⟩) 996 996 (zr_row 996 W11) (by omega) (fun _ b off e hm => by cases e; exact absurd (HK11.out.a.lt _ hm) (Nat.lt_irrefl _)) (E := 0) (al' := (take1 all0 ⟨2, 0, List.replicate 996 0⟩)) (mstore_yes _ (by simp) (by simp [rm]))
  go_wp2_with fail
  with_reducible refine C.mono ?_
  rintro e W12 ⟨rfl, J12, s12, hK⟩
  have HK12 : Hid (KS w W12 p B q2 (take1 all0 ⟨2, 0, List.replicate 996 0⟩) J12 s12 770000) := hK
  clear C hK
  clear MK
  have C := HK12.out.store (by omega) 2 (by omega) [] none 0 0 (row_nil _) (by omega) (fun hp => absurd hp (by omega)) (E := 60) (al' := (take1 all0 ⟨2, 0, List.replicate 996 0⟩)) (mstore_two _ (by simp [rm]))
  go_wp2_with fail
  with_reducible refine C.mono ?_
  rintro e W13 ⟨rfl, J13, s13, hK⟩
  have HK13 : Hid (KS w W13 p B q2 (take1 all0 ⟨2, 0, List.replicate 996 0⟩) J13 s13 840000) := hK
  clear C hK
  have C := HK13.out.store (by omega) 0 (by omega) [] none 0 0 (row_nil _) (by omega) (fun hp => absurd hp (by omega)) (E := 0) (al' := (take1 all0 ⟨2, 0, []⟩)) (mstore_zero _)
  go_wp2_with fail
  with_reducible refine C.mono ?_
  rintro e W14 ⟨rfl, J14, s14, hK⟩
  have HK14 : Hid (KS w W14 p B q2 (take1 all0 ⟨2, 0, []⟩) J14 s14 910000) := hK
  clear C hK
  have C := HK14.out.store (by omega) 2 (by omega) [] none 0 0 (row_nil _) (by omega) (fun hp => absurd hp (by omega)) (E := 0) (al' := (take1 (take1 all0 ⟨2, 0, []⟩) ⟨2, 2, []⟩)) ((by rfl))
  go_wp2_with fail
  with_reducible refine C.mono ?_
  rintro e W15 ⟨rfl, J15, s15, hK⟩
  have HK15 : Hid (KS w W15 p B q2 (take1 (take1 all0 ⟨2, 0, []⟩) ⟨2, 2, []⟩) J15 s15 980000) := hK
  clear C hK
  have C := open_nil W15 0 2
  go_wp2_with fail
  with_reducible refine C.mono ?_
  rintro e W15 ⟨rfl, rfl⟩
  clear C
  have C := open_bad HK15.out.fs (-1) 2 (by omega)
  go_wp2_with fail
  with_reducible refine C.mono ?_
  rintro e W15 ⟨rfl, rfl⟩
  clear C
  have C := open_bad HK15.out.fs (0) 1 (by omega)
  go_wp2_with fail
  with_reducible refine C.mono ?_
  rintro e W15 ⟨rfl, rfl⟩
  clear C
  have C := open_bad HK15.out.fs (3) 2 (by omega)
  go_wp2_with fail
  with_reducible refine C.mono ?_
  rintro e W15 ⟨rfl, rfl⟩
  clear C
  have C := open_bad HK15.out.fs (1) 9223372036854775807 (by omega)
  go_wp2_with fail
  with_reducible refine C.mono ?_
  rintro e W15 ⟨rfl, rfl⟩
  clear C
  have ltZ := HK15.out.fs.lt
  have OP := open_ok HK15.out.fs HK15.out.of 2 2 (by omega) (by omega) [p, B] (by simp; omega)
  rw [show ((2 : Nat) : Int) = 2 from rfl] at OP
  go_wp2_with fail
  with_reducible refine OP.mono ?_
  rintro e WP ⟨⟨q3, rfl, hq3, hJ3⟩, hbP⟩
  clear OP hJ3
  have HKP : Hid (KS w WP p B q2 (take1 (take1 all0 ⟨2, 0, []⟩) ⟨2, 2, []⟩) J15 s15 980000) := HK15.out.next hbP
  have CU := cut_any HKP.out.fs 0
  clear hbP
  go_wp2_with fail
  with_reducible refine CU.mono ?_
  rintro e WC ⟨rfl, hFC, hKC⟩
  clear CU
  have C := HKP.out.cutNow (by omega) hFC hKC 3 (by omega) (al' := (take1 (take1 (take1 all0 ⟨2, 0, []⟩) ⟨2, 2, []⟩) ⟨2, 3, []⟩)) (by rfl) (fun e => absurd (congrArg (fun l : List Gp => (l.getD 3 gp0).there) e) (by decide))
  have HBC : Hid (Below w.heap.size w WC) := hKC.below HKP.out.bel HKP.out.bel.size (fun x hx => by simp at hx; subst hx; exact HKP.out.new _ (by simp))
  clear hFC hKC
  go_wp2_with fail
  with_reducible refine C.mono ?_
  rintro e WD ⟨rfl, ⟨J9, s9, hF9, hof9, hle9, hJ9, hok9⟩, hK9⟩
  clear C
  have HBD : Hid (Below w.heap.size w WD) := hK9.below HBC.out HBC.out.size HKP.out.new
  have ltD := hF9.lt
  have q2D : q2 < WD.heap.size := by obtain ⟨_, h, _⟩ := hJ9; exact lt_of_heap h
  have C := store_any hF9 _ hle9 (by omega) hJ9 hok9 HKP.out.a.qp HKP.out.a.qB (by omega) (by omega) (by omega) (by simp) (by simp) (by simp) (by simp; omega) 16 (by omega) [] none 0 0 (row_nil WD) (by omega) (fun hp => absurd hp (by omega))
  rw [storeJ_g (by omega)] at C
  clear hF9 hle9 hJ9 hok9 hK9
  go_wp2_with fail
  with_reducible refine C.mono ?_
  rintro e WE ⟨rfl, hFE, _, hKE⟩
  clear C
  dsimp only at hFE
  have HBE : Hid (Below w.heap.size w WE) := hKE.below HBD.out HBD.out.size HKP.out.new
  have OP := open_off hFE hof9 0 2 (by omega) (by omega)
  rw [show ((0 : Nat) : Int) = 0 from rfl, show ((2 : Nat) : Int) = 2 from rfl] at OP
  have HFE : Hid (IsS WE p B 4 4 s9) := hFE
  clear hFE hKE
  go_wp2_with fail
  with_reducible refine OP.mono ?_
  rintro e WF ⟨rfl, hbF⟩
  clear OP
  have HBF : Hid (Below w.heap.size w WF) := Below.andThen HBE.out hbF
  have ON := on_any (HFE.out.next hbF)
  clear hbF
  go_wp2_with fail
  with_reducible refine ON.mono ?_
  rintro e WH ⟨rfl, hFH, hKH⟩
  clear ON hFH
  have HBH : Hid (Below w.heap.size w WH) := hKH.below HBF.out HBF.out.size (fun x hx => by simp at hx; subst hx; exact HKP.out.new _ (by simp))
  have C := load_nil WH 0
  clear hKH
  go_wp2_with fail
  with_reducible refine C.mono ?_
  rintro e WH ⟨rfl, rfl⟩
  clear C
  have C := many_any 2 (by omega) WH
  rw [show ((2 : Nat) : Int) = 2 from rfl] at C
  go_wp2_with fail
  with_reducible refine C.mono ?_
  rintro e WR1 ⟨⟨a1, c1, l1, rfl, hX1⟩, hbR⟩
  clear C
  have HBR1 : Hid (Below w.heap.size w WR1) := Below.andThen HBH.out hbR
  have C := journalPlays_any 2 hX1 c1 (by decide)
  go_wp2_with fail
  with_reducible refine C.mono ?_
  rintro e WT1 ⟨rfl, hbT⟩
  clear C hbR hX1
  have HBT1 : Hid (Below w.heap.size w WT1) := Below.andThen HBR1.out hbT
  clear hbT
  have C := many_any 5 (by omega) WT1
  rw [show ((5 : Nat) : Int) = 5 from rfl] at C
  go_wp2_with fail
  with_reducible refine C.mono ?_
  rintro e WR2 ⟨⟨a2, c2, l2, rfl, hX2⟩, hbR⟩
  clear C
  have HBR2 : Hid (Below w.heap.size w WR2) := Below.andThen HBT1.out hbR
  have C := journalPlays_any 5 hX2 c2 (by decide)
  go_wp2_with fail
  with_reducible refine C.mono ?_
  rintro e WT2 ⟨rfl, hbT⟩
  clear C hbR hX2
  have HBT2 : Hid (Below w.heap.size w WT2) := Below.andThen HBR2.out hbT
  clear hbT
  have C := many_any 2 (by omega) WT2
  rw [show ((2 : Nat) : Int) = 2 from rfl] at C
  go_wp2_with fail
  with_reducible refine C.mono ?_
  rintro e WR3 ⟨⟨a3, c3, l3, rfl, hX3⟩, hbR⟩
  clear C
  have HBR3 : Hid (Below w.heap.size w WR3) := Below.andThen HBT2.out hbR
  have C := journalCuts_any 2 hX3 c3 (by decide) 3 (by omega)
  go_wp2_with fail
  with_reducible refine C.mono ?_
  rintro e WT3 ⟨rfl, hbT⟩
  clear C hbR hX3
  have HBT3 : Hid (Below w.heap.size w WT3) := Below.andThen HBR3.out hbT
  clear hbT
  have C := cuts_any WT3
  go_wp2_with fail
  with_reducible refine C.mono ?_
  rintro e WR4 ⟨⟨a4, c4, l4, rfl, hX4⟩, hbR⟩
  clear C
  have HBR4 : Hid (Below w.heap.size w WR4) := Below.andThen HBT3.out hbR
  have C := journalCuts_any 3 hX4 c4 (by decide) 1 (by omega)
  go_wp2_with fail
  with_reducible refine C.mono ?_
  rintro e WT4 ⟨rfl, hbT⟩
  clear C hbR hX4
  have HBT4 : Hid (Below w.heap.size w WT4) := Below.andThen HBR4.out hbT
  clear hbT
  have C := cuts_any WT4
  go_wp2_with fail
  with_reducible refine C.mono ?_
  rintro e WR5 ⟨⟨a5, c5, l5, rfl, hX5⟩, hbR⟩
  clear C
  have HBR5 : Hid (Below w.heap.size w WR5) := Below.andThen HBT4.out hbR
  have C := journalCuts_any 2 hX5 c5 (by decide) 0 (by omega)
  go_wp2_with fail
  with_reducible refine C.mono ?_
  rintro e WT5 ⟨rfl, hbT⟩
  clear C hbR hX5
  have HBT5 : Hid (Below w.heap.size w WT5) := Below.andThen HBR5.out hbT
  clear hbT
  have C := store_nil WT5 0 none 0 0
  go_wp2_with fail
  with_reducible refine C.mono ?_
  rintro e WT5 ⟨rfl, rfl⟩
  clear C
  have C := restore_nil WT5 0
  go_wp2_with fail
  with_reducible refine C.mono ?_
  rintro e WT5 ⟨rfl, rfl⟩
  clear C
  have C := groups_nil WT5
  go_wp2_with fail
  with_reducible refine C.mono ?_
  rintro e WT5 ⟨rfl, rfl⟩
  clear C
  have C := works_any WT5
  go_wp2_with fail
  with_reducible refine C.mono ?_
  rintro e WZ ⟨rfl, hbZ⟩
  clear C
  have HBZ : Hid (Below w.heap.size w WZ) := Below.andThen HBT5.out hbZ
  clear hbZ
  go_wp2_with fail
  go_ret
  exact ⟨rfl, HBZ.out⟩
#print axioms journalKnown_any
end Go.Proofs.Ytgpbmccjcjoijaa
