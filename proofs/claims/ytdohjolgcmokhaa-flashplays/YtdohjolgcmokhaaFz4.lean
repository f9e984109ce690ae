/-
  The walks of the document's New and Copy.
-/
import Derived.Test.YtdohjolgcmokhaaFz1
import Derived.Test.YtdohjolgcmokhaaFl
namespace Go.Proofs.Ytdohjolgcmokhaa
open Go.RowKit

/-- So many bytes 255, as cells, four by four. -/
def R4 (i : Nat) : List Value := List.replicate (4 * i) (.int .u8 255)
theorem R4_next (i : Nat) : R4 i ++ [.int .u8 255, .int .u8 255, .int .u8 255, .int .u8 255] = R4 (i + 1) := by
  unfold R4
  rw [show 4 * (i + 1) = 4 * i + 4 from by omega, ← List.replicate_append_replicate]
  rfl
theorem built32 (z : World) : (Instr.buildSlice 61 1 #[(0, .agg #[.int .u8 255, .int .u8 255, .int .u8 255, .int .u8 255])]).run Try.prog z = .ok (.slice (some ⟨z.heap.size, 0, none⟩) 1 1) (z.alloc (.cells #[.int .u8 255, .int .u8 255, .int .u8 255, .int .u8 255] 32)) := by
  obtain ⟨i, hi, hz0, hz1, hz2⟩ := info_parts info32
  simp [Instr.buildSlice, run_underlying Try.underlying61, sizeOf, typeInfo, zeroValue, hi, hz0, hz1, newRow, Instr.fill, Value.cells]
  congr 2
  apply Array.ext'
  simp [Array.toList_setIfInBounds, List.range, List.range.loop]
theorem wpList_b32_by {ops : Array Oper} {rest : List Oper} {o : Oper} {a : Act} {w : World} {Q : Exit → Act → World → Prop} (hgd : o.guard = none) (x : Operand)
    (ho : o.op = .buildSlice 61 1 #[(0, x)]) (hx : a.eval x = .agg #[.int .u8 255, .int .u8 255, .int .u8 255, .int .u8 255])
    (h : wpList Try.prog ops Q rest (a.put o.dst (.slice (some ⟨w.heap.size, 0, none⟩) 1 1)) (w.alloc (.cells #[.int .u8 255, .int .u8 255, .int .u8 255, .int .u8 255] 32))) : wpList Try.prog ops Q (o :: rest) a w := by
  refine wpList_plain hgd fun K hK => ?_
  have hb := built32 w
  unfold Oper.wp
  simp [execOp, ho, hx, hb, Result.andThen]
  exact hK _ _ h

set_option linter.unusedSimpArgs false in
set_option maxHeartbeats 4000000 in
set_option maxRecDepth 100000 in
theorem newD_bad (z : Int) (w : World) (h : z < 1 ∨ 64 < z) :
    Calls Try.prog 11 #[.int .i64 z] w fun e w' => e = .returned (.tuple #[.pointer none, .int .i64 2]) ∧ w' = w := by
  by_cases a : z < 1
  · go_enter Try.func11, Try.ntmps11
    go_wp2_with fail
    go_ret2
    exact ⟨rfl, rfl⟩
  · have b : 64 < z := by omega
    go_enter Try.func11, Try.ntmps11
    go_wp2_with fail
    go_ret2
    exact ⟨rfl, rfl⟩

set_option linter.unusedSimpArgs false in
set_option maxHeartbeats 4000000 in
set_option maxRecDepth 100000 in
theorem newD_ok (n : Nat) (hn1 : 1 ≤ n) (hn : n ≤ 64) (w : World) :
    Calls Try.prog 11 #[.int .i64 (n : Int)] w fun e w' => (∃ p B c, e = .returned (.tuple #[.pointer (some ⟨p, 0, none⟩), .int .i64 0]) ∧ w.heap.size ≤ p ∧ w.heap.size ≤ B ∧ IsD w' p B n c (newS n)) ∧ Below w.heap.size w w' := by
  obtain ⟨i0, hi, hz0, hz1, hz2⟩ := info_parts info32
  have g1 : ¬ (n : Int) < 1 := by omega
  have g2 : ¬ (64 : Int) < (n : Int) := by omega
  obtain ⟨N, hN⟩ : ∃ N, Hid (N = 256 * n) := ⟨_, rfl⟩
  have wx : IntKind.i64.wrap (256 * (n : Int)) = (N : Int) := by rw [hN.out, IntKind.wrap_i64]; omega
  have hN2 : N ≤ 16384 := by rw [hN.out]; omega
  go_enter Try.func11, Try.ntmps11
  go_wp2_with fail
  go_loopw [5] (fun u wr => ∃ (i : Nat) (v : Value), i ≤ N ∧ u = .int .i64 i ∧ wr.heap[w.heap.size]? = some (.cells #[v, .int .i64 (-1), .bool false, .int .i64 0] 63 (0, 0)) ∧ wr.ownsRow (w.heap.size + 1) 32 4 v i (R4 i) ∧ Below w.heap.size w wr) (fun u _ => N - (intOf u).toNat)
  case atStart => exact ⟨0, .slice none 0 0, by omega, rfl, heap_alloc_last w _, ⟨by simp [R4], .inl ⟨rfl, rfl⟩⟩, Below.al (Below.refl _ _) _⟩
  case round =>
    obtain ⟨i, v, hi6, rfl, hh, hown, hb⟩ := hrel
    have OWN : Hid (wr.ownsRow (w.heap.size + 1) 32 4 v i (R4 i)) := hown
    have HH : Hid (wr.heap[w.heap.size]? = some (.cells #[v, .int .i64 (-1), .bool false, .int .i64 0] 63 (0, 0))) := hh
    clear hown hh
    by_cases h : i < N
    · have g : (i : Int) < (N : Int) := by omega
      have hsz := lt_of_heap HH.out
      have c0 : wr.cell? ⟨w.heap.size, 0, none⟩ = some v := by rw [cell_of_row wr _ 0 _ _ _ HH.out]; rfl
      have NW : ∀ j u, [Value.int .u8 255, .int .u8 255, .int .u8 255, .int .u8 255][j]? = some u → (wr.alloc (.cells #[.int .u8 255, .int .u8 255, .int .u8 255, .int .u8 255] 32)).cell? ((⟨wr.heap.size, 0, none⟩ : Addr).add j) = some u := fun j u hj => by
        rw [Addr.add_lit, Nat.zero_add, World.cell?_alloc_new, ← hj, List.getElem?_toArray]
      go_wp2_with (first | refine wpList_b32_by rfl (.tmp 25) rfl rfl ?_ | (at_builtin; refine wpList_append_own _ rfl _ _ 61 rfl (w.heap.size + 1) 32 i0 (.agg #[.int .u8 0, .int .u8 0, .int .u8 0, .int .u8 0]) 4 4 Try.underlying61 hi hz0 hz1 hz2 rfl (by decide) v i (R4 i) rfl (OWN.out.alloc _) ⟨wr.heap.size, 0, none⟩ 1 1 [.int .u8 255, .int .u8 255, .int .u8 255, .int .u8 255] rfl rfl NW (fun u hu => by simp at hu; rw [hu]; rfl) (by unfold maxLen; omega) (by omega) (by simp; omega) ?_))
      intro v' w2 hown' hgrow _
      rw [R4_next] at hown'
      have HD : w2.heap[w.heap.size]? = some (.cells #[v, .int .i64 (-1), .bool false, .int .i64 0] 63 (0, 0)) := by
        rw [hgrow.block w.heap.size (by simp; omega) (fun e => by have := (OWN.out.lt _ e.symm).1; omega), Below.heap_alloc _ _ _ hsz]
        exact HH.out
      have c0' : w2.cell? ⟨w.heap.size, 0, none⟩ = some v := by rw [cell_of_row w2 _ 0 _ _ _ HD]; rfl
      have f0' := frozen_of_row w2 w.heap.size 0 _ _ HD
      have hb3 : Below w.heap.size w w2 := (Below.al hb _).grown hgrow (by simp; omega) (fun j hj => by have := (OWN.out.lt j hj).1; omega)
      have RES : Hid ((w2.setCell ⟨w.heap.size, 0, none⟩ v').heap[w.heap.size]? = some (.cells #[v', .int .i64 (-1), .bool false, .int .i64 0] 63 (0, 0)) ∧ (w2.setCell ⟨w.heap.size, 0, none⟩ v').ownsRow (w.heap.size + 1) 32 4 v' (i + 1) (R4 (i + 1)) ∧ Below w.heap.size w (w2.setCell ⟨w.heap.size, 0, none⟩ v')) :=
        ⟨by rw [heap_setCell_same _ _ _ _ _ _ HD]; rfl, ownsRow_setCell_below hown' (by show w.heap.size < w.heap.size + 1; omega) _, hb3.setCell (Nat.le_refl _) _⟩
      obtain ⟨g9, cap9, rfl⟩ : ∃ g9 cap9, v' = .slice (some ⟨g9, 0, none⟩) (i + 1) cap9 := by
        rcases hown'.2 with ⟨_, h0⟩ | ⟨g, c, cur, hv, _⟩
        · exact absurd h0 (by omega)
        · exact ⟨g, c, hv⟩
      clear HD hb3 hown' hgrow NW OWN HH hb c0
      go_wp2_with fail
      exact ⟨⟨i + 1, _, by omega, by go_num, RES.out⟩, by simp [intOf]; omega⟩
    · obtain rfl : i = N := by omega
      clear hi6
      obtain ⟨B, cap, cur, rfl, hB, hc, hle, _, _, ht⟩ : ∃ B cap cur, v = .slice (some ⟨B, 0, none⟩) i cap ∧ w.heap.size + 1 ≤ B ∧ wr.heap[B]? = some (.cells cur 32 (0, 0)) ∧ i ≤ cap ∧ True ∧ True ∧ cur.toList.take (i * 4) = R4 i := by
        rcases OWN.out.2 with ⟨hv, h0⟩ | ⟨g, c, cur, hv, hg, hh, hl, _, _, ht⟩
        · have := hN.out; exact absurd h0 (by omega)
        · exact ⟨g, c, cur, hv, hg, hh, hl, trivial, trivial, ht⟩
      have NS : (newS n).cs.map (Value.int .u8) = R4 i := by unfold newS R4; rw [List.map_replicate, hN.out]; congr 1; omega
      have RES : Hid (IsD wr w.heap.size B n cap (newS n)) := ⟨by omega, hn1, hn, by simp [newS], fun x hx => by rw [newS, List.mem_replicate] at hx; omega, by rw [← hN.out]; exact hle, by rw [← hN.out]; exact HH.out, 32, cur.toList.drop (i * 4), by rw [NS, ← ht, List.take_append_drop]; exact hc⟩
      clear OWN HH hc ht NS
      go_wp2_with fail
      go_ret2
      exact ⟨⟨_, _, _, rfl, Nat.le_refl _, by omega, RES.out⟩, hb⟩
#print axioms newD_ok

set_option linter.unusedSimpArgs false in
set_option maxHeartbeats 4000000 in
set_option maxRecDepth 100000 in
theorem copyD_any {w : World} {p B n cap : Nat} {s : FS} (h : IsD w p B n cap s) :
    Calls Try.prog 13 #[.pointer (some ⟨p, 0, none⟩)] w fun e w' => (∃ p' B' cap', e = .returned (.pointer (some ⟨p', 0, none⟩)) ∧ w.heap.size ≤ p' ∧ w.heap.size ≤ B' ∧ IsD w' p' B' n cap' s) ∧ Below w.heap.size w w' := by
  obtain ⟨i0, hi, hz0, hz1, hz2⟩ := info_parts info32
  have k0 := h.c0
  have hlt := h.lt
  have hl := h.len
  have hn1 := h.n1
  have hn2 := h.n2
  have KK : Hid (∀ z, Below w.heap.size w z → z.cell? ⟨p, 1, none⟩ = some (.int .i64 s.left) ∧ z.cell? ⟨p, 2, none⟩ = some (.bool s.of) ∧ z.cell? ⟨p, 3, none⟩ = some (.int .i64 s.st)) := fun z hz => ⟨(h.next hz).c1, (h.next hz).c2, (h.next hz).c3⟩
  have FX : Hid (s.cs.length = 1024 * n ∧ Oct s.cs) := ⟨h.len, h.oct⟩
  have NW : ∀ j u, (s.cs.map (Value.int .u8))[j]? = some u → w.cell? ((⟨B, 0, none⟩ : Addr).add j) = some u := fun j u hu => by
    rw [Addr.add_lit, Nat.zero_add]
    obtain ⟨t, ex, hr⟩ := h.row
    have hj : j < s.cs.length := by
      rw [List.getElem?_map] at hu
      by_cases hj : j < s.cs.length
      · exact hj
      · rw [List.getElem?_eq_none (by omega)] at hu; cases hu
    rw [cell_of_row w B j _ _ _ hr, List.getElem?_toArray, List.getElem?_append_left (by simpa using hj)]
    exact hu
  have OWN : w.ownsRow w.heap.size 32 4 (.slice none 0 0) 0 [] := ⟨by simp, .inl ⟨rfl, rfl⟩⟩
  obtain ⟨N, hN⟩ : ∃ N, Hid (N = 256 * n) := ⟨_, rfl⟩
  rw [← hN.out] at k0
  have hNl : s.cs.length = N * 4 := by rw [hN.out]; omega
  have hNn : 1 ≤ N ∧ N ≤ 16384 := by rw [hN.out]; omega
  clear h
  generalize hle : s.left = lf at *
  have HLE : Hid (s.left = lf) := hle
  clear hle
  go_enter Try.func13, Try.ntmps13
  go_wp2_with (at_builtin; refine wpList_append_own _ rfl _ _ 61 rfl w.heap.size 32 i0 (.agg #[.int .u8 0, .int .u8 0, .int .u8 0, .int .u8 0]) 4 4 Try.underlying61 hi hz0 hz1 hz2 rfl (by decide) _ 0 [] rfl OWN ⟨B, 0, none⟩ N cap (s.cs.map (Value.int .u8)) rfl (by rw [List.length_map, hNl]) NW (oneU8 _) (by unfold maxLen; omega) (by omega) (by simp) ?_)
  intro v' w2 hown hgrow hne
  have hb : Below w.heap.size w w2 := (Below.refl _ _).grown hgrow (by simp) (fun j hj => by cases hj)
  obtain ⟨B', cap', cur, rfl, hB, hc, hcl, ht⟩ : ∃ B' cap' cur, v' = .slice (some ⟨B', 0, none⟩) N cap' ∧ w.heap.size ≤ B' ∧ w2.heap[B']? = some (.cells cur 32 (0, 0)) ∧ N ≤ cap' ∧ cur.toList.take (N * 4) = s.cs.map (Value.int .u8) := by
    rcases hown.2 with ⟨hv, h0⟩ | ⟨g, c, cur, hv, hg, hh, hl2, _, _, ht⟩
    · exact absurd h0 (by omega)
    · exact ⟨g, c, cur, by first | exact hv | simpa using hv, hg, hh, by omega, by first | exact ht | simpa using ht⟩
  have RES : Hid (∃ ex, w2.heap[B']? = some (.cells (s.cs.map (Value.int .u8) ++ ex).toArray 32 (0, 0))) := ⟨cur.toList.drop (N * 4), by rw [hc, ← ht, List.take_append_drop]⟩
  have hBl := lt_of_heap hc
  obtain ⟨c1, c2, c3⟩ := KK.out w2 hb
  have hs2 := hb.size
  clear hown hgrow hc ht hne NW OWN KK k0
  go_wp2_with fail
  go_region
  go_wp2_with fail
  go_ret
  obtain ⟨ex, hx⟩ := RES.out
  refine ⟨⟨_, B', cap', rfl, hs2, hB, ⟨?_, hn1, hn2, FX.out.1, FX.out.2, by rw [← hN.out]; exact hcl, ?_, 32, ex, ?_⟩⟩, ?_⟩
  · exact (Nat.ne_of_lt hBl).symm
  · rw [← hN.out, HLE.out]; exact heap_alloc_last _ _
  · show (w2.alloc _).heap[B']? = _
    rw [Below.heap_alloc _ _ _ hBl]; exact hx
  · exact Below.drew (Below.al hb _)
#print axioms copyD_any
end Go.Proofs.Ytdohjolgcmokhaa
