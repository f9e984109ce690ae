/-
  Rows of frames and of numbers that came in; loads out of them.
-/
import Derived.Test.YtndlpjfofjikeaaCc4
import Derived.Test.YtndlpjfofjikeaaBw4
import Derived.Deep.QuietTactic
import Derived.Lib.ReflectliteSwap
namespace Go.Proofs.Ytndlpjfofjikeaa
open Go.RowKit

/-- A frame's cells. -/
abbrev Sn.F (x : Sn) : List Value := [.int .u16 x.i, .int .i64 x.n, .int .u8 x.d0, .int .u8 x.d1, .int .u8 x.d2, .int .u8 x.d3, .int .u8 x.d4, .int .u8 x.d5, .int .u8 x.d6, .int .u8 x.d7, .bool x.r]
/-- A row of frames that came in. -/
structure IsFs (w : World) (a : Option Addr) (len : Nat) (fs : List Sn) : Prop where
  size : fs.length = len
  oct : ∀ x ∈ fs, Oct [x.d0, x.d1, x.d2, x.d3, x.d4, x.d5, x.d6, x.d7]
  at_ : 0 < len → ∃ b off, a = some ⟨b, off, none⟩ ∧ ∀ i x, fs[i]? = some x → ∀ j v, x.F[j]? = some v → w.cell? ⟨b, off + i * 11 + j, none⟩ = some v
/-- A row of numbers that came in. -/
structure IsNs (w : World) (a : Option Addr) (len : Nat) (zs : List Int) : Prop where
  size : zs.length = len
  at_ : 0 < len → ∃ b off, a = some ⟨b, off, none⟩ ∧ ∀ i, i < len → w.cell? ⟨b, off + i, none⟩ = some (.int .i64 (zs.getD i 0))
theorem aggF : ∀ w, (isAgg 27).run Try.prog w = .ok true w := fun w => by simp [isAgg, run_underlying Try.underlying27]
theorem IsFs.load {w w' : World} {a : Option Addr} {len : Nat} {fs : List Sn} (h : IsFs w a len fs) (k : Below w.heap.size w w') (i : Nat) (hi : i < len) : ∃ b off x, a = some ⟨b, off, none⟩ ∧ x ∈ fs ∧ (loadVar 27 ⟨b, off + i * 11, none⟩).run Try.prog w' = .ok (.agg #[.int .u16 x.i, .int .i64 x.n, .int .u8 x.d0, .int .u8 x.d1, .int .u8 x.d2, .int .u8 x.d3, .int .u8 x.d4, .int .u8 x.d5, .int .u8 x.d6, .int .u8 x.d7, .bool x.r]) w' := by
  obtain ⟨b, off, e, hc⟩ := h.at_ (by omega)
  have hx : fs[i]? = some (fs[i]'(by rw [h.size]; exact hi)) := List.getElem?_eq_getElem (by rw [h.size]; exact hi)
  refine ⟨b, off, fs[i]'(by rw [h.size]; exact hi), e, List.getElem_mem _, ?_⟩
  cases hq : Try.prog.info? 27 with
  | none => have := sizeF; simp [hq] at this
  | some ie =>
    have hs : ie.size = 11 := by have := sizeF; simpa [hq] using this
    exact Go.Lib.rl_loadVar_cells (P := Try.prog) 27 ie hq aggF b (off + i * 11) (fs[i]'(by rw [h.size]; exact hi)).F (by rw [hs]; rfl) w' (fun j v hv => by
      have := hc i _ hx j v hv
      rw [k.cell (p := ⟨b, off + i * 11 + j, none⟩) (lt_of_cell this)]
      exact this)
theorem IsNs.load {w w' : World} {a : Option Addr} {len : Nat} {zs : List Int} (h : IsNs w a len zs) (k : Below w.heap.size w w') (i : Nat) (hi : i < len) : ∃ b off, a = some ⟨b, off, none⟩ ∧ w'.cell? ⟨b, off + i, none⟩ = some (.int .i64 (zs.getD i 0)) := by
  obtain ⟨b, off, e, hc⟩ := h.at_ (by omega)
  refine ⟨b, off, e, ?_⟩
  have := hc i hi
  rw [k.cell (p := ⟨b, off + i, none⟩) (lt_of_cell this)]
  exact this
theorem make_bool (n : Nat) (h : n ≤ 16777216) (w : World) : (Instr.makeSlice 54 (.int .i64 (n : Int)) (.int .i64 (n : Int))).run Try.prog w = .ok (.slice (some ⟨w.heap.size, 0, none⟩) n n) (w.alloc (.cells (madeCells #[.bool false] n) 4)) :=
  Go.run_make_row' 54 4 (.bool false) 1 Try.underlying54 (by kernel_rfl) rfl .i64 .i64 n (by omega) (by omega) w
def lenV : Value → Nat
  | .slice _ n _ => n
  | _ => 0
theorem lenV_is {w : World} {base : Nat} {v : Value} {l : List Sn} (h : IsL w base v l) : lenV v = l.length := by
  rcases h.form with ⟨h1, h2⟩ | ⟨g, cap, _, h1, _⟩
  · rw [h1, h2]; rfl
  · rw [h1]; rfl
/-- Which numbers have been seen. -/
structure Seen (w : World) (q M : Nat) (C : List Sn) (i : Nat) (B : List Bool) : Prop where
  len : B.length = M
  blk : w.heap[q]? = some (.cells (B.map Value.bool).toArray 4 (0, 0))
  iff : ∀ k, k < M → (B[k]? = some true ↔ ∃ j, j < i ∧ (at_ C j).nm = (k : Int))
theorem Seen.cell {w : World} {q M : Nat} {C : List Sn} {i : Nat} {B : List Bool} (h : Seen w q M C i B) {k : Nat} (hk : k < M) (he : (at_ C i).nm = (k : Int)) (hne : ∀ j, j < i → (at_ C j).nm ≠ (at_ C i).nm) : w.cell? ⟨q, k, none⟩ = some (.bool false) := by
  rw [cell_of_row w q k _ _ _ h.blk, List.getElem?_toArray, List.getElem?_map, List.getElem?_eq_getElem (by rw [h.len]; exact hk)]
  cases hb : B[k]'(by rw [h.len]; exact hk) with
  | false => rfl
  | true =>
    obtain ⟨j, hj, e⟩ := (h.iff k hk).1 (by rw [List.getElem?_eq_getElem (by rw [h.len]; exact hk), hb])
    exact absurd (e.trans he.symm) (hne j hj)
theorem Seen.set {w : World} {q M : Nat} {C : List Sn} {i : Nat} {B : List Bool} (h : Seen w q M C i B) {k : Nat} (hk : k < M) (he : (at_ C i).nm = (k : Int)) : Seen (w.setCell ⟨q, k, none⟩ (.bool true)) q M C (i + 1) (B.set k true) where
  len := by rw [List.length_set]; exact h.len
  blk := by
    rw [heap_setCell_same w q k _ _ _ h.blk]
    congr 2
    rw [List.map_set]
    simp
  iff := fun m hm => by
    rw [List.getElem?_set]
    by_cases e : k = m
    · subst e
      simp only [if_true]
      rw [if_pos (by rw [h.len]; exact hk)]
      simp only [true_iff]
      exact ⟨i, by omega, he⟩
    · rw [if_neg e, h.iff m hm]
      refine ⟨fun ⟨j, hj, hh⟩ => ⟨j, by omega, hh⟩, fun ⟨j, hj, hh⟩ => ?_⟩
      rcases Nat.lt_or_ge j i with c | c
      · exact ⟨j, c, hh⟩
      · obtain rfl : j = i := by omega
        exact absurd (he.symm.trans hh) (by omega)
theorem Seen.zero (w : World) (M : Nat) (C : List Sn) : Seen (w.alloc (.cells (madeCells #[.bool false] M) 4)) w.heap.size M C 0 (List.replicate M false) where
  len := by simp
  blk := by
    rw [heap_alloc_last]
    congr 2
    apply Array.ext
    · rw [size_madeCells]; simp
    · intro i h1 h2
      simp [madeCells, Nat.mod_one]
  iff := fun k hk => by simp [hk]
theorem Seen.kp {w w' : World} {q M : Nat} {C : List Sn} {i : Nat} {B : List Bool} (h : Seen w q M C i B) (k : Below w.heap.size w w') : Seen w' q M C i B := ⟨h.len, by rw [k.block q (lt_of_heap h.blk)]; exact h.blk, h.iff⟩
#print axioms Seen.set
#print axioms Seen.zero
#print axioms IsFs.load
end Go.Proofs.Ytndlpjfofjikeaa
