/-
  What StateKnown builds: a row of steps that grows, and its pieces.
-/
import Derived.Test.YtjfjfohabpjemaaHl
import Derived.Test.YtjfjfohabpjemaaZa
namespace Go.Proofs.Ytjfjfohabpjemaa
open Go.RowKit

def stL (R : List Hx) : List Value := R.flatMap Hx.C
theorem Hx.C_len (x : Hx) : x.C.length = 12 := rfl
theorem stL_app (l m : List Hx) : stL (l ++ m) = stL l ++ stL m := by unfold stL; rw [List.flatMap_append]
theorem stL_at (l : List Hx) (i : Nat) (x : Hx) (h : l[i]? = some x) (j : Nat) (u : Value) (hu : x.C[j]? = some u) : (stL l)[i * 12 + j]? = some u := by
  have hj : j < 12 := by
    rcases Nat.lt_or_ge j 12 with hh | hh
    · exact hh
    · rw [List.getElem?_eq_none (by rw [Hx.C_len]; exact hh)] at hu; cases hu
  induction l generalizing i with
  | nil => simp at h
  | cons y l ih =>
    have e : stL (y :: l) = y.C ++ stL l := rfl
    rw [e]
    cases i with
    | zero =>
      simp at h; subst h
      rw [Nat.zero_mul, Nat.zero_add, List.getElem?_append_left (by rw [Hx.C_len]; exact hj)]
      exact hu
    | succ i =>
      have := ih i (by simpa using h)
      rw [List.getElem?_append_right (by rw [Hx.C_len]; omega), Hx.C_len, show (i + 1) * 12 + j - 12 = i * 12 + j from by omega]
      exact this

/-- Where the row stands. -/
structure Kn (w wr : World) (L : List Hx) (rv : Value) : Prop where
  bel : Below w.heap.size w wr
  row : Own wr 38 12 rv L.length (stL L)
  oct : ∀ x ∈ L, Oct [x.d0, x.d1, x.d2, x.d3, x.d4, x.d5, x.d6, x.d7]
  own : ∀ g, rv.ownBlock = some g → w.heap.size ≤ g
theorem Kn.next {w wr w' : World} {L : List Hx} {rv : Value} (h : Kn w wr L rv) (hb : Below wr.heap.size wr w') : Kn w w' L rv := ⟨Below.andThen h.bel hb, h.row.next hb, h.oct, h.own⟩
theorem Kn.nil (w wr : World) (h : Below w.heap.size w wr) : Kn w wr [] (.slice none 0 0) := ⟨h, own_nil _ _ _, (fun x hx => by cases hx), (fun g hg => by cases hg)⟩
/-- The two steps that are put behind: a frame, and a boot. -/
def st1 (z y : Int) : Hx := ⟨0, 2, z, y, 0, 0, 0, 0, 0, 0, false, 0⟩
def st2 : Hx := ⟨0, 0, 0, 0, 0, 0, 0, 0, 0, 0, false, 2⟩
abbrev rowS (z y : Int) : Array Value := #[.int .i64 0, .int .u16 0, .int .i64 2, .int .u8 z, .int .u8 y, .int .u8 0, .int .u8 0, .int .u8 0, .int .u8 0, .int .u8 0, .int .u8 0, .bool false, .int .i64 2, .int .u16 0, .int .i64 0, .int .u8 0, .int .u8 0, .int .u8 0, .int .u8 0, .int .u8 0, .int .u8 0, .int .u8 0, .int .u8 0, .bool false]
theorem infoSt : (Try.prog.info? 38).map (fun i => (i.zero, i.size, i.bytes)) = some (some (.agg #[.int .i64 0, .int .u16 0, .int .i64 0, .int .u8 0, .int .u8 0, .int .u8 0, .int .u8 0, .int .u8 0, .int .u8 0, .int .u8 0, .int .u8 0, .bool false]), 12, 40) := by kernel_rfl
theorem news_at (z y : Int) (j : Nat) (u : Value) (hu : ((st1 z y).C ++ st2.C)[j]? = some u) : (rowS z y)[j]? = some u := by
  show (List.toArray ((st1 z y).C ++ st2.C))[j]? = _
  rw [List.getElem?_toArray]
  exact hu
theorem grow_st {w wr : World} {L : List Hx} {rv : Value} (h : Kn w wr L rv) (hl : L.length ≤ 1000) (z y : Int) (hz : 0 ≤ z ∧ z < 256) (hy : 0 ≤ y ∧ y < 256) :
    ∃ g o cap w', (Builtin.append_ #[22, 22] 22 #[rv, .slice (some ⟨wr.heap.size, 0, none⟩) 2 2]).run Try.prog (wr.alloc (.cells (rowS z y) 38)) = .ok (.slice (some ⟨g, o, none⟩) (L.length + 2) cap) w' ∧
      Kn w w' (L ++ [st1 z y, st2]) (.slice (some ⟨g, o, none⟩) (L.length + 2) cap) ∧ (∀ (k : Nat) (cs : Array Value) (T : TypeId), wr.heap[k]? = some (.cells cs T (0, 0)) → T ≠ 38 → w'.heap[k]? = some (.cells cs T (0, 0))) := by
  obtain ⟨hbel, hR, hO0, ho⟩ := h
  obtain ⟨i0, hi, hz0, hz1, hz2⟩ := info_parts infoSt
  have B1 : Below wr.heap.size wr (wr.alloc (.cells (rowS z y) 38)) := (by repeat (first | exact Below.refl _ _ | apply Below.drew | apply Below.al))
  obtain ⟨g, o, cap, w', r, hO, hg, hk⟩ := Own.append (ty := 22) Try.underlying22 hi hz0 hz1 hz2 rfl (by decide) (hR.next B1) ⟨wr.heap.size, 0, none⟩ 2 2 ((st1 z y).C ++ st2.C) rfl
    (fun j u hu => by rw [add_at, Nat.zero_add, cell_of_row _ _ j _ _ _ (at11 wr (.cells (rowS z y) 38) wr.heap.size rfl)]; exact news_at z y j u hu)
    (fun u hu => (Array.all_eq_true_iff_forall_mem.1 (show (rowS z y).all (·.oneCell') = true from by simp [Value.oneCell'])) u (by show u ∈ List.toArray ((st1 z y).C ++ st2.C); simpa using hu)) (by decide) (by omega) (by decide)
  have hgw : w.heap.size ≤ g := by
    rcases hg with hg | hg
    · exact ho g hg
    · have := hbel.size
      rw [hg]; simp; omega
  have kk : Kp rv.ownBlock.toList wr w' := (Kp.al (Kp.refl _ _) _).trans hk
  have hO2 : OwnAt w' 38 12 g o (L.length + 2) cap (stL (L ++ [st1 z y, st2])) := by rw [stL_app]; exact (by simpa [stL] using hO)
  refine ⟨g, o, cap, w', r, ⟨Kp.below hbel kk hbel.size (fun b hb => ho b (by simpa using hb)), ?_, fun x hx => ?_, fun g' hg' => by cases hg'; exact hgw⟩, fun k cs T hkc hT => ?_⟩
  · have e : (L ++ [st1 z y, st2]).length = L.length + 2 := by simp
    rw [e]
    exact .inr ⟨g, o, cap, rfl, hO2⟩
  · rcases List.mem_append.1 hx with hx | hx
    · exact hO0 x hx
    · simp only [List.mem_cons, List.not_mem_nil, or_false] at hx
      rcases hx with rfl | rfl
      · intro n hn
        simp only [st1, List.mem_cons, List.not_mem_nil, or_false] at hn
        rcases hn with rfl | rfl | rfl | rfl | rfl | rfl | rfl | rfl <;> first | assumption | decide
      · intro n hn
        simp only [st2, List.mem_cons, List.not_mem_nil, or_false] at hn
        rcases hn with rfl | rfl | rfl | rfl | rfl | rfl | rfl | rfl <;> decide
  · refine Kp.at kk (fun hm => ?_) hkc
    rcases hR with ⟨rfl, _⟩ | ⟨g', o', cap', rfl, hA⟩
    · simp [Value.ownBlock] at hm
    · simp [Value.ownBlock] at hm
      subst hm
      obtain ⟨cur, c1, _⟩ := hA.cur
      have := c1.symm.trans hkc
      simp at this
      exact hT this.2.symm

/-- A piece of the row, as a row of steps. -/
theorem isHx_sub {w : World} {L : List Hx} {g o cap : Nat} (h : OwnAt w 38 12 g o L.length cap (stL L)) (hO : ∀ x ∈ L, Oct [x.d0, x.d1, x.d2, x.d3, x.d4, x.d5, x.d6, x.d7]) (i m : Nat) (him : i + m ≤ L.length) : IsHx w (some ⟨g, o + i * 12, none⟩) m ((L.drop i).take m) where
  size := by rw [List.length_take, List.length_drop]; omega
  good := fun x hx => hO x (List.mem_of_mem_drop (List.mem_of_mem_take hx))
  at_ := fun _ => ⟨g, o + i * 12, rfl, fun t x hx j v hv => by
    rw [List.getElem?_take] at hx
    split at hx
    · rw [List.getElem?_drop] at hx
      have := h.cell ((i + t) * 12 + j) v (stL_at L (i + t) x hx j v hv)
      rw [show o + i * 12 + t * 12 + j = o + ((i + t) * 12 + j) from by omega]
      exact this
    · cases hx⟩
theorem elemS : Try.prog.elem 22 = 38 := by kernel_rfl
theorem sub_run {g o n cap i m : Nat} (h1 : i + m ≤ cap) (h2 : 0 < m) (W : World) : (Instr.sliceAt 22 (.slice (some ⟨g, o, none⟩) n cap) (some (.int .i64 (i : Int))) (some (.int .i64 ((i : Int) + (m : Int)))) none).run Try.prog W = .ok (.slice (some ⟨g, o + i * 12, none⟩) m (cap - i)) W := by
  have ht : Try.prog.underlying 22 = some (.slice (Try.prog.elem 22)) := by rw [elemS]; exact Try.underlying22
  obtain ⟨i0, hi, _, hz1, _⟩ := info_parts infoSt
  rw [run_sliceAt_slice W 22 _ _ _ _ ht, run_slice_lh W 22 _ _ _ ht .i64 .i64 (i : Int) ((i : Int) + (m : Int)) (by omega) (by omega) (by omega)]
  have hsz : (sizeOf (Try.prog.elem 22)).run Try.prog W = .ok 12 W := by rw [elemS]; simp [sizeOf, typeInfo, hi, hz1]
  rw [hsz, Result.andThen_ok]
  have e1 : ((i : Int)).toNat = i := by omega
  have e2 : ((i : Int) + (m : Int)).toNat = i + m := by omega
  unfold sliced
  rw [e1, e2, if_neg (by omega), Option.map_some, add_at, show i + m - i = m from by omega]
theorem sub_head {g o n cap : Nat} (h1 : 1 ≤ cap) (W : World) : (Instr.sliceAt 22 (.slice (some ⟨g, o, none⟩) n cap) none (some (.int .i64 1)) none).run Try.prog W = .ok (.slice (some ⟨g, o, none⟩) 1 cap) W := by
  have ht : Try.prog.underlying 22 = some (.slice (Try.prog.elem 22)) := by rw [elemS]; exact Try.underlying22
  obtain ⟨i0, hi, _, hz1, _⟩ := info_parts infoSt
  rw [run_sliceAt_slice W 22 _ _ _ _ ht, run_slice_h W 22 _ _ _ ht .i64 1 (by omega) (by omega)]
  have hsz : (sizeOf (Try.prog.elem 22)).run Try.prog W = .ok 12 W := by rw [elemS]; simp [sizeOf, typeInfo, hi, hz1]
  rw [hsz, Result.andThen_ok]
  unfold sliced
  rw [if_neg (by omega), Option.map_some, add_at]
  simp

/-- A row of literals. -/
theorem lit_at {W : World} {k : Nat} {zs : List Int} {T : TypeId} (h : W.heap[k]? = some (.cells (zs.map (Value.int .u8)).toArray T (0, 0))) (j : Nat) (hj : j < zs.length) : W.cell? ⟨k, j, none⟩ = some (.int .u8 (zs.getD j 0)) := by
  rw [cell_of_row W k j _ _ _ h, List.getElem?_toArray, List.getElem?_map, List.getD_eq_getElem?_getD, List.getElem?_eq_getElem hj]
  rfl
theorem lit_in {zs : List Int} (h : Oct zs) (j : Nat) (hj : j < zs.length) : 0 ≤ zs.getD j 0 ∧ zs.getD j 0 < 256 := by
  rw [List.getD_eq_getElem?_getD, List.getElem?_eq_getElem hj]
  exact h _ (List.getElem_mem hj)
#print axioms sub_head
#print axioms isHx_sub
#print axioms grow_st
end Go.Proofs.Ytjfjfohabpjemaa
