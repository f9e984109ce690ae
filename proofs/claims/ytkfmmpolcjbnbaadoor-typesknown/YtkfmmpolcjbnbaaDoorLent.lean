/-
  The walk of lent: bytes of their own; and bytes as a string, any number of them.
-/
import Derived.Test.YtkfmmpolcjbnbaaDoorWk5
import Derived.Deep.Upon
import Derived.Shelf.Bytes.SlSmallAll
namespace Go.Proofs.YtkfmmpolcjbnbaaDoor
open Pl Go.RowKit

theorem info8 : (Tryd.prog.info? 5).map (fun i => (i.zero, i.size, i.bytes)) = some (some (.int .u8 0), 1, 1) := by kernel_rfl

theorem Row.str' {w : World} {a : Option Addr} {len : Nat} {zs : List Int} (h : Row w a len zs) (cap : Nat) : (convert 22 9 (.slice a len cap)).run Tryd.prog w = .ok (.string (strOfNums zs)) w := by
  rcases Nat.eq_zero_or_pos len with h0 | hp
  · subst h0
    rw [Row.nil h]
    exact run_convert_bytes_zero w 22 5 Tryd.underlying22 Tryd.underlying5 a cap 9 Tryd.underlying9
  · exact h.str hp cap

/-- Bytes, any, put behind none: a new row of their own. -/
theorem append_nil_run (ty : TypeId) (a : Option Addr) (len cap : Nat) (zs : List Int) (w : World) (hr : Row w a len zs) (h : len ≤ 16777216) :
    ∃ a' cap' w', (Builtin.append_ #[22, 22] ty #[.slice none 0 0, .slice a len cap]).run Tryd.prog w = .ok (.slice a' len cap') w' ∧ len ≤ cap' ∧ cap' ≤ maxLen ∧ Row w' a' len zs ∧ Below w.heap.size w w' := by
  obtain ⟨i, hi, hz0, hz1, hz2⟩ := info_parts info8
  rcases Nat.eq_zero_or_pos len with h0 | hp
  · subst h0
    have hz := Row.nil hr
    subst hz
    have hs : Src Tryd.prog i.size 22 (.slice a 0 cap) 0 [] w := by
      cases a with
      | none => exact Src.ofNil w Tryd.underlying22 cap
      | some x => exact Src.ofSlice w Tryd.underlying22 x 0 cap [] (by simp) (fun j u hu => by simp at hu) (fun u hu => by simp at hu)
    exact ⟨none, 0, w, run_append_nothing (P := Tryd.prog) w 22 22 ty 5 i Tryd.underlying22 hi none 0 0 (Nat.le_refl _) _ hs, Nat.le_refl _, by decide, row_nil w, Below.refl _ _⟩
  · obtain ⟨b, off, rfl, hc⟩ := hr.at_ hp
    have hn : ∀ j u, (zs.map (Value.int .u8))[j]? = some u → w.cell? ((⟨b, off, none⟩ : Addr).add j) = some u := by
      intro j u hu
      rw [List.getElem?_map] at hu
      by_cases hj : j < zs.length
      · rw [List.getElem?_eq_getElem hj] at hu
        have e := hc j (by rw [← hr.size]; exact hj)
        rw [show (⟨b, off, none⟩ : Addr).add j = ⟨b, off + j, none⟩ from by simp [Addr.add], e]
        simpa [List.getD_eq_getElem?_getD, hj] using hu
      · rw [List.getElem?_eq_none (by omega)] at hu
        simp at hu
    have hs : Src Tryd.prog i.size 22 (.slice (some ⟨b, off, none⟩) len cap) len (zs.map (Value.int .u8)) w :=
      Src.ofSlice w Tryd.underlying22 _ len cap _ (by rw [List.length_map, hr.size, hz1, Nat.mul_one]) hn (fun u hu => by obtain ⟨_, _, rfl⟩ := List.mem_map.1 hu; rfl)
    have hrun := run_append_grow_src (P := Tryd.prog) w 22 22 ty 5 i (.int .u8 0) Tryd.underlying22 hi hz0 none 0 0 [] (run_firstCells_none w.drew i.size 0 0 0) _ len _ hs (by omega) (by omega)
      (growslice_fits (by omega) (by rw [hz2]; omega))
    rw [Nat.zero_add] at hrun
    refine ⟨_, _, _, hrun, grownCap_ge w len 0 _, grownCap_le_maxLen w len 0 _ (by unfold maxLen; omega), ⟨hr.size, hr.oct, fun _ => ⟨_, 0, rfl, fun j hj => ?_⟩⟩, Below.al (Below.drew (Below.refl _ _)) _⟩
    have e1 : (w.drew.alloc (.cells ((([] : List Value) ++ zs.map (Value.int .u8)).toArray ++ Builtin.zeroCells (Value.int .u8 0).cells (grownCap w len 0 5 - len)) 5)).cell? ⟨w.heap.size, j, none⟩ = _ := World.cell?_alloc_new w.drew _ _ j
    rw [Nat.zero_add, e1, Array.getElem?_append_left (by simp [hr.size, hj]), List.getElem?_toArray]
    simp [List.getD_eq_getElem?_getD, hr.size, hj]

theorem wpList_append_nil {w : World} {ops : Array Oper} {rest : List Oper} {o : Oper} {c : Act} {Q : Exit → Act → World → Prop} (hgd : o.guard = none) (s x : Operand)
    (ho : o.op = .call { callee := .builtin .append, args := #[s, x], argTypes := #[22, 22] }) (hs : c.eval s = .slice none 0 0)
    (a : Option Addr) (len cap : Nat) (zs : List Int) (hx : c.eval x = .slice a len cap) (hr : Row w a len zs) (hl : len ≤ 16777216)
    (h : ∀ a' cap' w', len ≤ cap' → cap' ≤ maxLen → Row w' a' len zs → Below w.heap.size w w' → wpList Tryd.prog ops Q rest (c.put o.dst (.slice a' len cap')) w') : wpList Tryd.prog ops Q (o :: rest) c w := by
  refine wpList_plain hgd fun K hK => ?_
  obtain ⟨a', cap', w', hrun, h1, h2, h3, h4⟩ := append_nil_run o.type a len cap zs w hr hl
  unfold Oper.wp
  simp [execOp, ho, resolve, invoke, builtin, hs, hx, hrun, Result.andThen]
  exact hK _ _ (h a' cap' w' h1 h2 h3 h4)

end Go.Proofs.YtkfmmpolcjbnbaaDoor
