/-
  Rows of bytes in memory, and what stays of them: of no function in particular.
-/
import Derived.Test.YtjdfacjfpdfafaaChecked
import Derived.WalkKit
import Derived.WalkLawsBesides
import Derived.Deep.Light
import Derived.Deep.OwnRows
import Derived.Deep.Upon
import Derived.Laws.BytesArg
import Derived.Laws.CopyRow
import Derived.Laws.IdiomCopy
import Derived.Laws.StructEq
import Derived.WideShapes
namespace Go.Proofs.Ytjdfacjfpdfafaa
open Go.RowKit

theorem ret_int {k : IntKind} {a b : Int} (h : a = b) : Ending.returned (.int k a) = .returned (.int k b) := by rw [h]
theorem ret_bool {a b : Bool} (h : a = b) : Ending.returned (.bool a) = .returned (.bool b) := by rw [h]
theorem ret_val {a b : Value} (h : a = b) : Ending.returned a = .returned b := by rw [h]

/-- What a byte is. -/
def Oct (zs : List Int) : Prop := ∀ n ∈ zs, 0 ≤ n ∧ n < 256

theorem Oct.getD {zs : List Int} (h : Oct zs) (i : Nat) : 0 ≤ zs.getD i 0 ∧ zs.getD i 0 < 256 := by
  by_cases hi : i < zs.length
  · have : zs.getD i 0 ∈ zs := by simp [List.getD_eq_getElem?_getD, hi]
    exact h _ this
  · simp [List.getD_eq_getElem?_getD, hi]
theorem Oct.take {zs : List Int} (h : Oct zs) (k : Nat) : Oct (zs.take k) := fun n hn => h n (List.mem_of_mem_take hn)
theorem Oct.drop {zs : List Int} (h : Oct zs) (k : Nat) : Oct (zs.drop k) := fun n hn => h n (List.mem_of_mem_drop hn)
theorem Oct.app {xs ys : List Int} (h : Oct xs) (h' : Oct ys) : Oct (xs ++ ys) := fun n hn => (List.mem_append.1 hn).elim (h n) (h' n)
theorem oct_nil : Oct [] := fun n hn => by simp at hn

/-- A slice of bytes in memory, its bytes as numbers. -/
structure Row (w : World) (a : Option Addr) (len : Nat) (zs : List Int) : Prop where
  size : zs.length = len
  oct : Oct zs
  at_ : 0 < len → ∃ b off, a = some ⟨b, off, none⟩ ∧ ∀ i, i < len → w.cell? ⟨b, off + i, none⟩ = some (.int .u8 (zs.getD i 0))

theorem Row.nil {w : World} {a : Option Addr} {zs : List Int} (h : Row w a 0 zs) : zs = [] := List.eq_nil_of_length_eq_zero h.size
theorem row_nil (w : World) : Row w none 0 [] := ⟨rfl, oct_nil, fun h => absurd h (by decide)⟩
theorem Row.old {w : World} {a : Option Addr} {len : Nat} {zs : List Int} (h : Row w a len zs) (hp : 0 < len) (b off : Nat) (e : a = some ⟨b, off, none⟩) : b < w.heap.size := by
  obtain ⟨b', off', e', hc⟩ := h.at_ hp
  rw [e] at e'; cases e'
  exact block_lt_of_cell (hc 0 hp)
theorem Row.next {w w' : World} {a : Option Addr} {len : Nat} {zs : List Int} (h : Row w a len zs) (hb : Below w.heap.size w w') : Row w' a len zs where
  size := h.size
  oct := h.oct
  at_ := fun hp => by
    obtain ⟨b, off, e, hc⟩ := h.at_ hp
    exact ⟨b, off, e, fun i hi => by rw [hb.cell (h.old hp b off e)]; exact hc i hi⟩

theorem Below.al {a w : World} (h : Below a.heap.size a w) (o : Obj) : Below a.heap.size a (w.alloc o) := h.alloc h.size o
theorem Below.andThen {a W w1 : World} (h : Below a.heap.size a W) (h1 : Below W.heap.size W w1) : Below a.heap.size a w1 := h.trans (h1.mono h.size)

theorem row_lit (w : World) (C : Array Value) (T : TypeId) (zs : List Int) (len : Nat) (hl : zs.length = len) (ho : Oct zs) (hC : C = (zs.map (Value.int .u8)).toArray) : Row (w.alloc (.cells C T)) (some ⟨w.heap.size, 0, none⟩) len zs where
  size := hl
  oct := ho
  at_ := fun _ => ⟨_, 0, rfl, fun i hi => by
    rw [Nat.zero_add, World.cell?_alloc_new, hC]
    simp [List.getD_eq_getElem?_getD, hl, hi]⟩

theorem Row.str {w : World} {a : Option Addr} {len : Nat} {zs : List Int} (h : Row w a len zs) (cap : Nat) : (convert 98 9 (.slice a len cap)).run Try.prog w = .ok (.string (strOfNums zs)) w := by
  rcases Nat.eq_zero_or_pos len with h0 | hp
  · subst h0
    rw [Row.nil h]
    refine (run_convert_bytes_string w 98 9 5 a 0 cap Try.underlying98 Try.underlying5 Try.underlying9).trans ?_
    rcases a with _ | ⟨b, off, x⟩ <;> rfl
  · obtain ⟨b, off, rfl, hc⟩ := h.at_ hp
    exact run_convert_bytes_arg w 98 5 Try.underlying98 Try.underlying5 b off len cap zs h.size hc 9 Try.underlying9

theorem info8 : (Try.prog.info? 5).map (fun i => (i.zero, i.size, i.bytes)) = some (some (.int .u8 0), 1, 1) := by kernel_rfl
theorem info8s : (Try.prog.info? 5).map (·.size) = some 1 := by kernel_rfl

theorem Row.cells {w : World} {b off len : Nat} {zs : List Int} (hr : Row w (some ⟨b, off, none⟩) len zs) : ∀ j u, (zs.map (Value.int .u8))[j]? = some u → w.cell? ((⟨b, off, none⟩ : Addr).add j) = some u := by
  intro j u hu
  rw [List.getElem?_map] at hu
  by_cases hj : j < zs.length
  · rw [List.getElem?_eq_getElem hj] at hu
    have hp : 0 < len := by have := hr.size; omega
    obtain ⟨b', off', e, hc⟩ := hr.at_ hp
    cases e
    have e := hc j (by rw [← hr.size]; exact hj)
    rw [show (⟨b, off, none⟩ : Addr).add j = ⟨b, off + j, none⟩ from by simp [Addr.add], e]
    simpa [List.getD_eq_getElem?_getD, hj] using hu
  · rw [List.getElem?_eq_none (by omega)] at hu
    simp at hu

/-- Bytes, any, put behind none: a new row of their own. -/
theorem append_nil_run (ty : TypeId) (a : Option Addr) (len cap : Nat) (zs : List Int) (w : World) (hr : Row w a len zs) (h : len ≤ 16777216) :
    ∃ a' cap' w', (Builtin.append_ #[98, 98] ty #[.slice none 0 0, .slice a len cap]).run Try.prog w = .ok (.slice a' len cap') w' ∧ len ≤ cap' ∧ cap' ≤ maxLen ∧ Row w' a' len zs ∧ (∀ b off, a' = some ⟨b, off, none⟩ → b = w.heap.size ∧ off = 0 ∧ ∀ i, i < len → w'.frozen? ⟨b, i, none⟩ = false) ∧ Below w.heap.size w w' := by
  obtain ⟨i, hi, hz0, hz1, hz2⟩ := info_parts info8
  rcases Nat.eq_zero_or_pos len with h0 | hp
  · subst h0
    have hz := Row.nil hr
    subst hz
    have hs : Src Try.prog i.size 98 (.slice a 0 cap) 0 [] w := by
      cases a with
      | none => exact Src.ofNil w Try.underlying98 cap
      | some x => exact Src.ofSlice w Try.underlying98 x 0 cap [] (by simp) (fun j u hu => by simp at hu) (fun u hu => by simp at hu)
    exact ⟨none, 0, w, run_append_nothing (P := Try.prog) w 98 98 ty 5 i Try.underlying98 hi none 0 0 (Nat.le_refl _) _ hs, Nat.le_refl _, by decide, row_nil w, (fun b off h => by cases h), Below.refl _ _⟩
  · obtain ⟨b, off, rfl, hc⟩ := hr.at_ hp
    have hs : Src Try.prog i.size 98 (.slice (some ⟨b, off, none⟩) len cap) len (zs.map (Value.int .u8)) w :=
      Src.ofSlice w Try.underlying98 _ len cap _ (by rw [List.length_map, hr.size, hz1, Nat.mul_one]) hr.cells (fun u hu => by obtain ⟨_, _, rfl⟩ := List.mem_map.1 hu; rfl)
    have hrun := run_append_grow_src (P := Try.prog) w 98 98 ty 5 i (.int .u8 0) Try.underlying98 hi hz0 none 0 0 [] (run_firstCells_none w.drew i.size 0 0 0) _ len _ hs (by omega) (by omega)
      (growslice_fits (by omega) (by rw [hz2]; omega))
    rw [Nat.zero_add] at hrun
    refine ⟨_, _, _, hrun, grownCap_ge w len 0 _, grownCap_le_maxLen w len 0 _ (by unfold maxLen; omega), ⟨hr.size, hr.oct, fun _ => ⟨_, 0, rfl, fun j hj => ?_⟩⟩, fun b' off' e => ?_, Below.al (Below.drew (Below.refl _ _)) _⟩
    · have e1 : (w.drew.alloc (.cells ((([] : List Value) ++ zs.map (Value.int .u8)).toArray ++ Builtin.zeroCells (Value.int .u8 0).cells (grownCap w len 0 5 - len)) 5)).cell? ⟨w.heap.size, j, none⟩ = _ := World.cell?_alloc_new w.drew _ _ j
      rw [Nat.zero_add, e1, Array.getElem?_append_left (by simp [hr.size, hj]), List.getElem?_toArray]
      simp [List.getD_eq_getElem?_getD, hr.size, hj]
    · cases e
      exact ⟨rfl, rfl, fun i _ => by simp [go_sem]⟩

theorem wpList_append_nil {w : World} {ops : Array Oper} {rest : List Oper} {o : Oper} {c : Act} {Q : Exit → Act → World → Prop} (hgd : o.guard = none) (s x : Operand)
    (ho : o.op = .call { callee := .builtin .append, args := #[s, x], argTypes := #[98, 98] }) (hs : c.eval s = .slice none 0 0)
    (a : Option Addr) (len cap : Nat) (zs : List Int) (hx : c.eval x = .slice a len cap) (hr : Row w a len zs) (hl : len ≤ 16777216)
    (h : ∀ a' cap' w', len ≤ cap' → cap' ≤ maxLen → Row w' a' len zs → (∀ b off, a' = some ⟨b, off, none⟩ → b = w.heap.size ∧ off = 0 ∧ ∀ i, i < len → w'.frozen? ⟨b, i, none⟩ = false) → Below w.heap.size w w' → wpList Try.prog ops Q rest (c.put o.dst (.slice a' len cap')) w') : wpList Try.prog ops Q (o :: rest) c w := by
  refine wpList_plain hgd fun K hK => ?_
  obtain ⟨a', cap', w', hrun, h1, h2, h3, h4, h5⟩ := append_nil_run o.type a len cap zs w hr hl
  unfold Oper.wp
  simp [execOp, ho, resolve, invoke, builtin, hs, hx, hrun, Result.andThen]
  exact hK _ _ (h a' cap' w' h1 h2 h3 h4 h5)
#print axioms wpList_append_nil
end Go.Proofs.Ytjdfacjfpdfafaa
