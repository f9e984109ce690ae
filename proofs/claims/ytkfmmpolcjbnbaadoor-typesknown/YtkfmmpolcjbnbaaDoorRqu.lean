/-
  The walk of the document's quoted: bytes in quotes.
-/
import Derived.Test.YtkfmmpolcjbnbaaDoorQuo
import Derived.Test.YtkfmmpolcjbnbaaDoorRhx
namespace Go.Proofs.YtkfmmpolcjbnbaaDoor
open Pl Go.RowKit

theorem own_str {w : World} {B : Nat} {v : Value} {xs : List Value} {zs : List Int} (h : w.ownsRow B 5 1 v zs.length xs) (hz : xs = zs.map (Value.int .u8)) (ho : Oct zs) :
    (convert 22 9 v).run Tryd.prog w = .ok (.string (strOfNums zs)) w := by
  rcases h.2 with ⟨rfl, h0⟩ | ⟨g, cap, cur, rfl, hg, hc, hn, hm, hs, ht⟩
  · have : zs = [] := List.eq_nil_of_length_eq_zero h0
    subst this
    exact (row_nil w).str' 0
  · have r : Row w (some ⟨g, 0, none⟩) zs.length zs := ⟨rfl, ho, fun _ => ⟨g, 0, rfl, fun i hi => by
      have := h.cellAt i (by omega)
      rw [Nat.zero_add, this, hz]
      simp [List.getD_eq_getElem?_getD, hi]⟩⟩
    exact r.str' cap

theorem lit_cells (W : World) (c : Array Value) (T : TypeId) (l : List Value) (h : c.toList = l) : ∀ j u, l[j]? = some u → (W.alloc (.cells c T)).cell? ((⟨W.heap.size, 0, none⟩ : Addr).add j) = some u := by
  intro j u hj
  rw [Lib.add_plain, Nat.zero_add, World.cell?_alloc_new, ← Array.getElem?_toList, h]
  exact hj
theorem ints_one (l : List Int) : ∀ u ∈ l.map (Value.int .u8), u.oneCell' = true := by
  intro u hu
  obtain ⟨_, _, rfl⟩ := List.mem_map.1 hu
  rfl

/-- What stays owned through what leaves all blocks as they were. -/
theorem own_next {w w' : World} {B e size : Nat} {v : Value} {n : Nat} {xs : List Value} (h : w.ownsRow B e size v n xs) (hb : Below w.heap.size w w') : w'.ownsRow B e size v n xs := by
  refine h.kept (row := none) ⟨hb.os, hb.tape, hb.output, hb.size, fun k hk _ => hb.block k hk⟩ ?_
  cases h : v.ownBlock with
  | none => exact .inl rfl
  | some x => exact .inr (by simp)

end Go.Proofs.YtkfmmpolcjbnbaaDoor
