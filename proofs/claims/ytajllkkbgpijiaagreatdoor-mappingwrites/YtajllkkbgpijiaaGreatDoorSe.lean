/-
  The walk of slices.Clone of bytes: rows of one's own.
-/
import Derived.Test.YtajllkkbgpijiaaGreatDoorSa
import Derived.Lib.SlicesMore
import Derived.Deep.LoopGhost
import Derived.Deep.AppendSrc
import Derived.Lib.ReflectliteSwap
namespace Go.Proofs.YtajllkkbgpijiaaGreatDoor
open Go.RowKit

/-- Bytes of one's own that are told. -/
structure Told (w w' : World) (a : Option Addr) (len cap : Nat) (zs : List Int) : Prop where
  row : Row w' a len zs
  le : len ≤ cap
  max : cap ≤ maxLen
  own : 0 < len → ∃ g, a = some ⟨g, 0, none⟩ ∧ w.heap.size ≤ g ∧ ∀ i, i < len → w'.frozen? ⟨g, i, none⟩ = false

/-- A slice of bytes, all its own and not frozen. -/
structure Own (w : World) (g len : Nat) (zs : List Int) : Prop where
  size : zs.length = len
  oct : Oct zs
  cell : ∀ i, i < len → w.cell? ⟨g, i, none⟩ = some (.int .u8 (zs.getD i 0)) ∧ w.frozen? ⟨g, i, none⟩ = false

theorem Own.row {w : World} {g len : Nat} {zs : List Int} (h : Own w g len zs) : Row w (some ⟨g, 0, none⟩) len zs :=
  ⟨h.size, h.oct, fun _ => ⟨g, 0, rfl, fun i hi => by rw [Nat.zero_add]; exact (h.cell i hi).1⟩⟩

theorem append_new_run (ty : TypeId) (g : Nat) (a : Option Addr) (len cap : Nat) (zs : List Int) (w : World) (hr : Row w a len zs) (hp : 0 < len) (h : len ≤ 16777216) :
    ∃ cap' w', (Builtin.append_ #[24, 24] ty #[.slice (some ⟨g, 0, none⟩) 0 0, .slice a len cap]).run Tryz.prog w = .ok (.slice (some ⟨w.heap.size, 0, none⟩) len cap') w' ∧ len ≤ cap' ∧ cap' ≤ maxLen ∧ Own w' w.heap.size len zs ∧ Below w.heap.size w w' := by
  obtain ⟨i, hi, hz0, hz1, hz2⟩ := info_parts info8
  obtain ⟨b, off, rfl, hc⟩ := hr.at_ hp
  have hn : ∀ j u, (zs.map (Value.int .u8))[j]? = some u → w.cell? ((⟨b, off, none⟩ : Addr).add j) = some u := by
    intro j u hu
    rw [List.getElem?_map] at hu
    by_cases hj : j < zs.length
    · rw [List.getElem?_eq_getElem hj] at hu
      have e := hc j (by rw [← hr.size]; exact hj)
      rw [show (⟨b, off, none⟩ : Addr).add j = ⟨b, off + j, none⟩ from by simp [Addr.add], e]
      simpa [List.getD_eq_getElem?_getD, hj] using hu
    · rw [List.getElem?_eq_none (by omega)] at hu
      simp at hu
  have hs : Src Tryz.prog i.size 24 (.slice (some ⟨b, off, none⟩) len cap) len (zs.map (Value.int .u8)) w :=
    Src.ofSlice w Tryz.underlying24 _ len cap _ (by rw [List.length_map, hr.size, hz1, Nat.mul_one]) hn (fun u hu => by obtain ⟨_, _, rfl⟩ := List.mem_map.1 hu; rfl)
  have hrun := run_append_grow_src (P := Tryz.prog) w 24 24 ty 5 i (.int .u8 0) Tryz.underlying24 hi hz0 (some ⟨g, 0, none⟩) 0 0 [] (run_firstCells_some w.drew i.size 0 _ 0 0 [] (by simp) (fun j u hu => by simp at hu)) _ len _ hs (by omega) (by omega)
    (growslice_fits (by omega) (by rw [hz2]; omega))
  rw [Nat.zero_add] at hrun
  refine ⟨_, _, hrun, grownCap_ge w len 0 _, grownCap_le_maxLen w len 0 _ (by unfold maxLen; omega), ⟨hr.size, hr.oct, fun j hj => ⟨?_, World.frozen?_alloc_new w.drew _ _ j⟩⟩, Below.al (Below.drew (Below.refl _ _)) _⟩
  have e1 : (w.drew.alloc (.cells ((([] : List Value) ++ zs.map (Value.int .u8)).toArray ++ Builtin.zeroCells (Value.int .u8 0).cells (grownCap w len 0 5 - len)) 5)).cell? ⟨w.heap.size, j, none⟩ = _ := World.cell?_alloc_new w.drew _ _ j
  rw [e1, Array.getElem?_append_left (by simp [hr.size, hj]), List.getElem?_toArray]
  simp [List.getD_eq_getElem?_getD, hr.size, hj]

theorem wpList_append_new {w : World} {ops : Array Oper} {rest : List Oper} {o : Oper} {c : Act} {Q : Exit → Act → World → Prop} (hgd : o.guard = none) (s x : Operand)
    (ho : o.op = .call { callee := .builtin .append, args := #[s, x], argTypes := #[24, 24] }) (g : Nat) (hs : c.eval s = .slice (some ⟨g, 0, none⟩) 0 0)
    (a : Option Addr) (len cap : Nat) (zs : List Int) (hx : c.eval x = .slice a len cap) (hr : Row w a len zs) (hp : 0 < len) (hl : len ≤ 16777216)
    (h : ∀ cap' w', len ≤ cap' → cap' ≤ maxLen → Own w' w.heap.size len zs → Below w.heap.size w w' → wpList Tryz.prog ops Q rest (c.put o.dst (.slice (some ⟨w.heap.size, 0, none⟩) len cap')) w') : wpList Tryz.prog ops Q (o :: rest) c w := by
  refine wpList_plain hgd fun K hK => ?_
  obtain ⟨cap', w', hrun, h1, h2, h3, h4⟩ := append_new_run o.type g a len cap zs w hr hp hl
  unfold Oper.wp
  simp [execOp, ho, resolve, invoke, builtin, hs, hx, hrun, Result.andThen]
  exact hK _ _ (h cap' w' h1 h2 h3 h4)


theorem append_zero_run (ty : TypeId) (g : Nat) (a : Option Addr) (cap : Nat) (w : World) :
    (Builtin.append_ #[24, 24] ty #[.slice (some ⟨g, 0, none⟩) 0 0, .slice a 0 cap]).run Tryz.prog w = .ok (.slice (some ⟨g, 0, none⟩) 0 0) w := by
  obtain ⟨i, hi, hz0, hz1, hz2⟩ := info_parts info8
  have hs : Src Tryz.prog i.size 24 (.slice a 0 cap) 0 [] w := by
    cases a with
    | none => exact Src.ofNil w Tryz.underlying24 cap
    | some x => exact Src.ofSlice w Tryz.underlying24 x 0 cap [] (by simp) (fun j u hu => by simp at hu) (fun u hu => by simp at hu)
  exact run_append_nothing (P := Tryz.prog) w 24 24 ty 5 i Tryz.underlying24 hi (some ⟨g, 0, none⟩) 0 0 (Nat.le_refl _) _ hs

theorem wpList_append_zero {w : World} {ops : Array Oper} {rest : List Oper} {o : Oper} {c : Act} {Q : Exit → Act → World → Prop} (hgd : o.guard = none) (s x : Operand)
    (ho : o.op = .call { callee := .builtin .append, args := #[s, x], argTypes := #[24, 24] }) (g : Nat) (hs : c.eval s = .slice (some ⟨g, 0, none⟩) 0 0)
    (a : Option Addr) (cap : Nat) (hx : c.eval x = .slice a 0 cap)
    (h : wpList Tryz.prog ops Q rest (c.put o.dst (.slice (some ⟨g, 0, none⟩) 0 0)) w) : wpList Tryz.prog ops Q (o :: rest) c w := by
  refine wpList_plain hgd fun K hK => ?_
  have hrun := append_zero_run o.type g a cap w
  unfold Oper.wp
  simp [execOp, ho, resolve, invoke, builtin, hs, hx, hrun, Result.andThen]
  exact hK _ _ h

set_option maxRecDepth 100000 in
theorem clone8_any (a : Option Addr) (len cap : Nat) (zs : List Int) (w : World) (hr : Row w a len zs) (hl : len ≤ 16777216) :
    Calls Tryz.prog 38 #[.slice a len cap] w fun e w' => (∃ a' cap', e = .returned (.slice a' len cap') ∧ Told w w' a' len cap' zs) ∧ Below w.heap.size w w' := by
  have q22 : ∀ (w : World) (a : Option Addr) (n c n' c' : Nat), (binOp .eql 24 (.slice a n c) (.slice none n' c')).run Tryz.prog w = .ok (.bool a.isNone) w := fun w a n c n' c' => Lib.run_eql_slice_nil w _ _ a n c n' c' Tryz.underlying24
  rcases Nat.eq_zero_or_pos len with h0 | hp
  · subst h0
    have hz := hr.nil
    subst hz
    cases a with
    | none =>
      go_enter Tryz.func38, Tryz.ntmps38
      go_wp2_with fail
      go_ret
      exact ⟨⟨_, _, rfl, row_nil _, Nat.le_refl _, by decide, fun h => absurd h (by decide)⟩, Below.refl _ _⟩
    | some x =>
      go_enter Tryz.func38, Tryz.ntmps38
      go_wp2_with (at_builtin; refine wpList_append_zero rfl _ _ rfl _ rfl _ _ rfl ?_)
      go_ret
      exact ⟨⟨_, _, rfl, ⟨rfl, oct_nil, fun h => absurd h (by decide)⟩, Nat.le_refl _, by decide, fun h => absurd h (by decide)⟩, Below.al (Below.refl _ _) _⟩
  · obtain ⟨b, off, rfl, _⟩ := hr.at_ hp
    have R : Row (w.alloc (.cells #[] 5)) (some ⟨b, off, none⟩) len zs := hr.next (Below.al (Below.refl _ _) _)
    clear hr
    go_enter Tryz.func38, Tryz.ntmps38
    go_wp2_with (at_builtin; refine wpList_append_new rfl _ _ rfl _ rfl _ _ _ zs rfl R hp hl ?_)
    intro cap' w' h1 h2 h3 h4
    go_wp2_with fail
    go_ret
    exact ⟨⟨_, _, rfl, h3.row, h1, h2, fun _ => ⟨_, rfl, by simp, fun i hi => (h3.cell i hi).2⟩⟩, (Below.al (Below.refl _ _) _).trans (h4.mono (Nat.le_succ _))⟩

#print axioms clone8_any
end Go.Proofs.YtajllkkbgpijiaaGreatDoor
