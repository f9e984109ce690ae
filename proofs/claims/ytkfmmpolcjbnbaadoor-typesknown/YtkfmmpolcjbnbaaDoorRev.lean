/-
  The walks of slices.Clone and slices.Reverse of bytes, some of them.
-/
import Derived.Test.YtkfmmpolcjbnbaaDoorLent
import Derived.Deep.LoopGhost
import Derived.Sort.WalkB12
import Derived.Lib.SlicesMore
namespace Go.Proofs.YtkfmmpolcjbnbaaDoor
open Pl Go.RowKit Go.Sort

/-- A slice of bytes, all its own and not frozen. -/
structure Own (w : World) (g len : Nat) (zs : List Int) : Prop where
  size : zs.length = len
  oct : Oct zs
  cell : ∀ i, i < len → w.cell? ⟨g, i, none⟩ = some (.int .u8 (zs.getD i 0)) ∧ w.frozen? ⟨g, i, none⟩ = false

theorem Own.row {w : World} {g len : Nat} {zs : List Int} (h : Own w g len zs) : Row w (some ⟨g, 0, none⟩) len zs :=
  ⟨h.size, h.oct, fun _ => ⟨g, 0, rfl, fun i hi => by rw [Nat.zero_add]; exact (h.cell i hi).1⟩⟩
theorem Own.holds {w : World} {g len : Nat} {zs : List Int} (h : Own w g len zs) : Holds (Value.int .u8) w g 0 zs.toArray := fun j hj => by
  have hj' : j < len := by simpa [h.size] using hj
  have := h.cell j hj'
  rw [Nat.zero_add]
  refine ⟨this.1.trans ?_, this.2⟩
  simp [List.getD_eq_getElem?_getD, show j < zs.length by rw [h.size]; exact hj']

set_option maxHeartbeats 1600000 in
set_option maxRecDepth 1000000 in
theorem reverse_arr (blk off cap : Nat) (d : Array Int) (w : World) (hH : Holds (Value.int .u8) w blk off d) (hsz : d.size ≤ 9223372036854775807) :
    Calls Tryd.prog 49 #[.slice (some ⟨blk, off, none⟩) d.size cap] w fun e w' => e = .returned (.tuple #[]) ∧ ∃ n, w' = putRow (Value.int .u8) (Sort.ahead w n) blk off d.reverse := by
  go_enter Tryd.func49, Tryd.ntmps49
  go_wp2
  go_loopg [2, 3] d.size (fun k s2 s3 wr => ∃ (i jn : Nat) (jz : Int) (dk : Array Int) (n : Nat), s2 = .int .i64 i ∧ s3 = .int .i64 jz ∧ ((i : Int) < jz → jz = jn ∧ jn < d.size) ∧ (¬ (i : Int) < jz → ¬ i < jn) ∧ jn - i ≤ k ∧
    dk.size = d.size ∧ wr = putRow (Value.int .u8) (Sort.ahead w n) blk off dk ∧ reverseLoop i jn dk = reverseLoop 0 (d.size - 1) d)
  case atStart => exact ⟨0, d.size - 1, (d.size : Int) - 1, d, 0, rfl, rfl, fun h => ⟨by omega, by omega⟩, fun h => by omega, by omega, rfl, (putRow_self (Value.int .u8) w blk off d hH).symm, rfl⟩
  case round =>
    obtain ⟨i, jn, jz, dk, n, rfl, rfl, h1, h2, hk, hds, hwr, heq⟩ := hrel
    by_cases hlt : (i : Int) < jz
    · obtain ⟨rfl, hjn⟩ := h1 hlt
      have hij : i < jn := by omega
      have hHk : Holds (Value.int .u8) wr blk off dk := by rw [hwr]; exact holds_putRow (Value.int .u8) _ blk off d dk (holds_ahead (Value.int .u8) w n blk off d hH) hds
      obtain ⟨ci, fi⟩ := hHk i (by omega)
      obtain ⟨cj, fj⟩ := hHk jn (by omega)
      have A : Aside (wr = putRow (Value.int .u8) (Sort.ahead w n) blk off dk) := hwr
      clear hwr hHk hH h1 h2
      go_wp2_with fail
      go_region
      go_wp2
      go_roundg (jn - 1 - (i + 1))
      case measure => omega
      case rel =>
        rw [reverseLoop, if_pos hij] at heq
        exact ⟨i + 1, jn - 1, (jn : Int) - 1, swp dk i jn, n + 1, by simp, rfl, fun h => ⟨by omega, by omega⟩, fun h => by omega, Nat.le_refl _, by rw [size_swp]; exact hds,
          swap_world (Value.int .u8) (by omega) (by omega) A.out (by first | rfl | simp [getElem!_pos, show jn < dk.size by omega]) (by first | rfl | simp [getElem!_pos, show i < dk.size by omega]), heq⟩
    · have hnot := h2 hlt
      go_wp2
      go_end0
      refine ⟨rfl, n, ?_⟩
      rw [reverseLoop, if_neg hnot] at heq
      rw [← Lib.reverseLoop_reverse, ← heq]

theorem append_new_run (ty : TypeId) (g : Nat) (a : Option Addr) (len cap : Nat) (zs : List Int) (w : World) (hr : Row w a len zs) (hp : 0 < len) (h : len ≤ 16777216) :
    ∃ cap' w', (Builtin.append_ #[22, 22] ty #[.slice (some ⟨g, 0, none⟩) 0 0, .slice a len cap]).run Tryd.prog w = .ok (.slice (some ⟨w.heap.size, 0, none⟩) len cap') w' ∧ len ≤ cap' ∧ cap' ≤ maxLen ∧ Own w' w.heap.size len zs ∧ Below w.heap.size w w' := by
  obtain ⟨i, hi, hz0, hz1, hz2⟩ := info_parts info8
  obtain ⟨b, off, rfl, hc⟩ := hr.at_ hp
  have hn : ∀ j u, (zs.map (Value.int .u8))[j]? = some u → w.cell? ((⟨b, off, none⟩ : Addr).add j) = some u := by
    intro j u hu
    rw [List.getElem?_map] at hu
    by_cases hj : j < zs.length
    · rw [List.getElem?_eq_getElem hj] at hu
      have e := hc j (by rw [← hr.size]; exact hj)
      rw [show (⟨b, off, none⟩ : Addr).add j = ⟨b, off + j, none⟩ from by simp [Addr.add], e]
      simpa [List.getD_eq_getElem?_getD, hj] using hu
    · rw [List.getElem?_eq_none (by omega)] at hu
      simp at hu
  have hs : Src Tryd.prog i.size 22 (.slice (some ⟨b, off, none⟩) len cap) len (zs.map (Value.int .u8)) w :=
    Src.ofSlice w Tryd.underlying22 _ len cap _ (by rw [List.length_map, hr.size, hz1, Nat.mul_one]) hn (fun u hu => by obtain ⟨_, _, rfl⟩ := List.mem_map.1 hu; rfl)
  have hrun := run_append_grow_src (P := Tryd.prog) w 22 22 ty 5 i (.int .u8 0) Tryd.underlying22 hi hz0 (some ⟨g, 0, none⟩) 0 0 [] (run_firstCells_some w.drew i.size 0 _ 0 0 [] (by simp) (fun j u hu => by simp at hu)) _ len _ hs (by omega) (by omega)
    (growslice_fits (by omega) (by rw [hz2]; omega))
  rw [Nat.zero_add] at hrun
  refine ⟨_, _, hrun, grownCap_ge w len 0 _, grownCap_le_maxLen w len 0 _ (by unfold maxLen; omega), ⟨hr.size, hr.oct, fun j hj => ⟨?_, World.frozen?_alloc_new w.drew _ _ j⟩⟩, Below.al (Below.drew (Below.refl _ _)) _⟩
  have e1 : (w.drew.alloc (.cells ((([] : List Value) ++ zs.map (Value.int .u8)).toArray ++ Builtin.zeroCells (Value.int .u8 0).cells (grownCap w len 0 5 - len)) 5)).cell? ⟨w.heap.size, j, none⟩ = _ := World.cell?_alloc_new w.drew _ _ j
  rw [e1, Array.getElem?_append_left (by simp [hr.size, hj]), List.getElem?_toArray]
  simp [List.getD_eq_getElem?_getD, hr.size, hj]

theorem wpList_append_new {w : World} {ops : Array Oper} {rest : List Oper} {o : Oper} {c : Act} {Q : Exit → Act → World → Prop} (hgd : o.guard = none) (s x : Operand)
    (ho : o.op = .call { callee := .builtin .append, args := #[s, x], argTypes := #[22, 22] }) (g : Nat) (hs : c.eval s = .slice (some ⟨g, 0, none⟩) 0 0)
    (a : Option Addr) (len cap : Nat) (zs : List Int) (hx : c.eval x = .slice a len cap) (hr : Row w a len zs) (hp : 0 < len) (hl : len ≤ 16777216)
    (h : ∀ cap' w', len ≤ cap' → cap' ≤ maxLen → Own w' w.heap.size len zs → Below w.heap.size w w' → wpList Tryd.prog ops Q rest (c.put o.dst (.slice (some ⟨w.heap.size, 0, none⟩) len cap')) w') : wpList Tryd.prog ops Q (o :: rest) c w := by
  refine wpList_plain hgd fun K hK => ?_
  obtain ⟨cap', w', hrun, h1, h2, h3, h4⟩ := append_new_run o.type g a len cap zs w hr hp hl
  unfold Oper.wp
  simp [execOp, ho, resolve, invoke, builtin, hs, hx, hrun, Result.andThen]
  exact hK _ _ (h cap' w' h1 h2 h3 h4)

set_option maxRecDepth 100000 in
theorem clone_any (a : Option Addr) (len cap : Nat) (zs : List Int) (w : World) (hr : Row w a len zs) (hp : 0 < len) (hl : len ≤ 16777216) :
    Calls Tryd.prog 48 #[.slice a len cap] w fun e w' => ∃ g cap', e = .returned (.slice (some ⟨g, 0, none⟩) len cap') ∧ len ≤ cap' ∧ cap' ≤ maxLen ∧ w.heap.size ≤ g ∧ Own w' g len zs ∧ Below w.heap.size w w' := by
  obtain ⟨b, off, rfl, _⟩ := hr.at_ hp
  have R : Row (w.alloc (.cells #[] 5)) (some ⟨b, off, none⟩) len zs := hr.next (Below.al (Below.refl _ _) _)
  have q22 : ∀ (w : World) (a : Option Addr) (n c n' c' : Nat), (binOp .eql 22 (.slice a n c) (.slice none n' c')).run Tryd.prog w = .ok (.bool a.isNone) w := fun w a n c n' c' => Lib.run_eql_slice_nil w _ _ a n c n' c' Tryd.underlying22
  go_enter Tryd.func48, Tryd.ntmps48
  go_wp2_with (at_builtin; refine wpList_append_new rfl _ _ rfl _ rfl _ _ _ zs rfl R hp hl ?_)
  intro cap' w' h1 h2 h3 h4
  go_wp2_with fail
  go_ret
  exact ⟨_, _, rfl, h1, h2, by simp, h3, (Below.al (Below.refl _ _) _).trans (h4.mono (Nat.le_succ _))⟩
#print axioms reverse_arr
#print axioms clone_any
end Go.Proofs.YtkfmmpolcjbnbaaDoor
