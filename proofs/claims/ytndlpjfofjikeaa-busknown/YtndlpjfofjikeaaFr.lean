/-
  Frames as values; the walks of padded and carried.
-/
import Derived.Test.YtndlpjfofjikeaaDg
import Derived.Deep.WholeRow
namespace Go.Proofs.Ytndlpjfofjikeaa
open Go.RowKit

/-- Eight bytes as an array. -/
abbrev arr8 (p0 p1 p2 p3 p4 p5 p6 p7 : Int) : Value := .agg #[.int .u8 p0, .int .u8 p1, .int .u8 p2, .int .u8 p3, .int .u8 p4, .int .u8 p5, .int .u8 p6, .int .u8 p7]
/-- The first eight of a row, noughts behind. -/
abbrev arrL (zs : List Int) : Value := arr8 (zb zs 0) (zb zs 1) (zb zs 2) (zb zs 3) (zb zs 4) (zb zs 5) (zb zs 6) (zb zs 7)
/-- A frame's cells. -/
abbrev frC (id n d0 d1 d2 d3 d4 d5 d6 d7 : Int) (r : Bool) : Array Value := #[.int .u16 id, .int .i64 n, .int .u8 d0, .int .u8 d1, .int .u8 d2, .int .u8 d3, .int .u8 d4, .int .u8 d5, .int .u8 d6, .int .u8 d7, .bool r]
/-- A frame. -/
abbrev frV (id n d0 d1 d2 d3 d4 d5 d6 d7 : Int) (r : Bool) : Value := .agg (frC id n d0 d1 d2 d3 d4 d5 d6 d7 r)

theorem heap_new (w : World) (o : Obj) : (w.alloc o).heap[w.heap.size]? = some o := heap_alloc_last w o

set_option maxRecDepth 100000 in
/-- The copy of a row, at most 8 bytes, into eight noughts. -/
theorem copy8 (ty : TypeId) (w : World) (a : Option Addr) (len cap : Nat) (zs : List Int) (hr : Row w a len zs) (h8 : len ≤ 8) :
    (Builtin.copy_ #[74, 74] ty #[.slice (some ⟨w.heap.size + 1, 0, none⟩) 8 8, .slice a len cap]).run Try.prog ((w.alloc (.cells #[.int .u8 0, .int .u8 0, .int .u8 0, .int .u8 0, .int .u8 0, .int .u8 0, .int .u8 0, .int .u8 0] 25)).alloc (.cells #[.int .u8 0, .int .u8 0, .int .u8 0, .int .u8 0, .int .u8 0, .int .u8 0, .int .u8 0, .int .u8 0] 25)) = .ok (.int .i64 len)
      ((w.alloc (.cells #[.int .u8 0, .int .u8 0, .int .u8 0, .int .u8 0, .int .u8 0, .int .u8 0, .int .u8 0, .int .u8 0] 25)).alloc (.cells #[.int .u8 (zb zs 0), .int .u8 (zb zs 1), .int .u8 (zb zs 2), .int .u8 (zb zs 3), .int .u8 (zb zs 4), .int .u8 (zb zs 5), .int .u8 (zb zs 6), .int .u8 (zb zs 7)] 25)) := by
  have hs := hr.size
  have hb : Below w.heap.size w ((w.alloc (.cells #[.int .u8 0, .int .u8 0, .int .u8 0, .int .u8 0, .int .u8 0, .int .u8 0, .int .u8 0, .int .u8 0] 25)).alloc (.cells #[.int .u8 0, .int .u8 0, .int .u8 0, .int .u8 0, .int .u8 0, .int .u8 0, .int .u8 0, .int .u8 0] 25)) := Below.al (Below.al (Below.refl _ _) _) _
  have hr' := hr.next hb
  have hg : ((w.alloc (.cells #[.int .u8 0, .int .u8 0, .int .u8 0, .int .u8 0, .int .u8 0, .int .u8 0, .int .u8 0, .int .u8 0] 25)).alloc (.cells #[.int .u8 0, .int .u8 0, .int .u8 0, .int .u8 0, .int .u8 0, .int .u8 0, .int .u8 0, .int .u8 0] 25)).heap[w.heap.size + 1]? = some (.cells #[.int .u8 0, .int .u8 0, .int .u8 0, .int .u8 0, .int .u8 0, .int .u8 0, .int .u8 0, .int .u8 0] 25 (0, 0)) := by
    rw [show w.heap.size + 1 = (w.alloc (.cells #[.int .u8 0, .int .u8 0, .int .u8 0, .int .u8 0, .int .u8 0, .int .u8 0, .int .u8 0, .int .u8 0] 25)).heap.size from by simp]
    exact heap_new _ _
  have hset : ∀ C, ((w.alloc (.cells #[.int .u8 0, .int .u8 0, .int .u8 0, .int .u8 0, .int .u8 0, .int .u8 0, .int .u8 0, .int .u8 0] 25)).alloc (.cells #[.int .u8 0, .int .u8 0, .int .u8 0, .int .u8 0, .int .u8 0, .int .u8 0, .int .u8 0, .int .u8 0] 25)).setRow (w.heap.size + 1) C = (w.alloc (.cells #[.int .u8 0, .int .u8 0, .int .u8 0, .int .u8 0, .int .u8 0, .int .u8 0, .int .u8 0, .int .u8 0] 25)).alloc (.cells C 25) := by
    intro C
    have := World.setRow_alloc_new (w.alloc (.cells #[.int .u8 0, .int .u8 0, .int .u8 0, .int .u8 0, .int .u8 0, .int .u8 0, .int .u8 0, .int .u8 0] 25)) #[.int .u8 0, .int .u8 0, .int .u8 0, .int .u8 0, .int .u8 0, .int .u8 0, .int .u8 0, .int .u8 0] C 25
    rwa [show (w.alloc (.cells #[.int .u8 0, .int .u8 0, .int .u8 0, .int .u8 0, .int .u8 0, .int .u8 0, .int .u8 0, .int .u8 0] 25)).heap.size = w.heap.size + 1 from by simp] at this
  rcases Nat.eq_zero_or_pos len with h0 | hp
  · subst h0
    rw [Row.nil hr]
    exact run_copy_none (P := Try.prog) _ 74 74 ty 5 (some ⟨w.heap.size + 1, 0, none⟩) a 8 8 0 cap Try.underlying74 info8s (by simp)
  · obtain ⟨b, off, rfl, hc⟩ := hr'.at_ hp
    have := run_copy_row (P := Try.prog) _ 74 74 ty 5 (w.heap.size + 1) 0 8 8 ⟨b, off, none⟩ len cap _ _ (zs.map (Value.int .u8)) Try.underlying74 info8s hg (by rw [List.length_map, hs]; exact (Nat.min_eq_left h8).symm) hr'.cells (by simp; omega) (fun v hv => by obtain ⟨_, _, rfl⟩ := List.mem_map.1 hv; rfl)
    rw [this, hset]
    have e : (zs.map (Value.int .u8)).length = len := by simp [hs]
    rw [e]
    congr 3
    have h9 : len = 1 ∨ len = 2 ∨ len = 3 ∨ len = 4 ∨ len = 5 ∨ len = 6 ∨ len = 7 ∨ len = 8 := by omega
    clear e this hr hr' hg hc hb hset
    rcases h9 with rfl | rfl | rfl | rfl | rfl | rfl | rfl | rfl
    · match zs, hs with | [a], _ => rfl
    · match zs, hs with | [a, b], _ => rfl
    · match zs, hs with | [a, b, c], _ => rfl
    · match zs, hs with | [a, b, c, d], _ => rfl
    · match zs, hs with | [a, b, c, d, e], _ => rfl
    · match zs, hs with | [a, b, c, d, e, f], _ => rfl
    · match zs, hs with | [a, b, c, d, e, f, g], _ => rfl
    · match zs, hs with | [a, b, c, d, e, f, g, h], _ => rfl
#print axioms copy8

set_option maxHeartbeats 1000000 in
set_option maxRecDepth 100000 in
theorem padded_any (a : Option Addr) (len cap : Nat) (zs : List Int) (w : World) (hr : Row w a len zs) (h8 : len ≤ 8) :
    Calls Try.prog 34 #[.slice a len cap] w fun e w' => e = .returned (arrL zs) ∧ Below w.heap.size w w' := by
  have hcp := fun ty => copy8 ty w a len cap zs hr h8
  go_enter Try.func34, Try.ntmps34
  go_wp2_with fail
  exact bodyPost_ret (v := arrL zs) (by simp [results, Try.results34, go_sem]) rfl ⟨rfl, Below.al (Below.al (Below.refl _ _) _) _⟩

set_option maxHeartbeats 1000000 in
set_option maxRecDepth 100000 in
theorem carried_ask (id n d0 d1 d2 d3 d4 d5 d6 d7 : Int) (w : World) :
    Calls Try.prog 35 #[frV id n d0 d1 d2 d3 d4 d5 d6 d7 true] w fun e w' => e = .returned (.slice none 0 0) ∧ Below w.heap.size w w' := by
  go_enter Try.func35, Try.ntmps35
  go_wp2_with fail
  go_ret
  exact ⟨rfl, Below.al (Below.refl _ _) _⟩

set_option maxHeartbeats 1000000 in
set_option maxRecDepth 100000 in
theorem carried_data (id d0 d1 d2 d3 d4 d5 d6 d7 : Int) (n : Nat) (w : World) (h8 : n ≤ 8) :
    Calls Try.prog 35 #[frV id n d0 d1 d2 d3 d4 d5 d6 d7 false] w fun e w' => e = .returned (.slice (some ⟨w.heap.size, 2, none⟩) n 8) ∧ w' = w.alloc (.cells (frC id n d0 d1 d2 d3 d4 d5 d6 d7 false) 27) := by
  have h8' : (n : Int) ≤ 8 := by omega
  go_enter Try.func35, Try.ntmps35
  go_wp2_with fail
  go_ret
  exact ⟨rfl, rfl⟩
end Go.Proofs.Ytndlpjfofjikeaa
