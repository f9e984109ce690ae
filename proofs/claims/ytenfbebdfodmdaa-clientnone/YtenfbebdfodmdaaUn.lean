/-
  ClientNone returns true.
-/
import Derived.Test.YtenfbebdfodmdaaUm
namespace Go.Proofs.Ytenfbebdfodmdaa
open Go.RowKit

/-- A step's cells. -/
abbrev stC (kd id n d0 d1 d2 d3 d4 d5 d6 d7 : Int) (r : Bool) (i s : Int) (a : Option Addr) (len cap : Nat) (m code now : Int) (tk : Bool) : Array Value := #[.int .i64 kd, .int .u16 id, .int .i64 n, .int .u8 d0, .int .u8 d1, .int .u8 d2, .int .u8 d3, .int .u8 d4, .int .u8 d5, .int .u8 d6, .int .u8 d7, .bool r, .int .u16 i, .int .u8 s, .slice a len cap, .int .u8 m, .int .u32 code, .int .i64 now, .bool tk]
set_option linter.unusedSimpArgs false in
set_option maxHeartbeats 4000000 in
set_option maxRecDepth 100000 in
theorem sameResult_zero (w : World) : Calls Try.prog 11 #[.agg (rsC 0 0 false none 0 0 0), .agg (rsC 0 0 false none 0 0 0)] w fun e w' => e = .returned (.bool true) ∧ Below w.heap.size w w' := by
  have hPl := fun w => eqlP w 0 0 0 0
  have SE : ((strOfNums []).toList == (strOfNums []).toList) = true := by simp
  have SB : Hid (∀ W, Calls Try.prog 23 #[.slice none 0 0, .slice none 0 0] W fun e w' => e = .returned (.bool true) ∧ w' = W) := fun W => by
    have := same_bytes11 none none 0 0 0 0 [] [] W (row_nil _) (row_nil _)
    rw [SE] at this
    exact this
  clear SE
  go_enter Try.func11, Try.ntmps11
  go_wp2_with fail
  with_reducible refine (SB.out _).mono ?_
  rintro r w1 ⟨rfl, rfl⟩
  go_wp2_with fail
  go_ret
  exact ⟨rfl, (by repeat (first | exact Below.refl _ _ | apply Below.drew | apply Below.al))⟩

set_option linter.unusedSimpArgs false in
set_option maxHeartbeats 4000000 in
set_option maxRecDepth 100000 in
theorem clientNone_any (kd id n d0 d1 d2 d3 d4 d5 d6 d7 : Int) (r : Bool) (i s : Int) (a : Option Addr) (len cap : Nat) (m code now : Int) (tk : Bool) (w : World) :
    Calls Try.prog 3 #[.agg (stC kd id n d0 d1 d2 d3 d4 d5 d6 d7 r i s a len cap m code now tk)] w fun e w' => e = .returned (.bool true) ∧ Below w.heap.size w w' := by
  go_enter Try.func3, Try.ntmps3
  go_wp2_with fail
  with_reducible refine (write_nil i s a len cap m now _).mono ?_
  rintro e w9 ⟨rfl, rfl⟩
  go_wp2_with fail
  with_reducible refine (read_nil i s m now _).mono ?_
  rintro e w9 ⟨rfl, rfl⟩
  go_wp2_with fail
  with_reducible refine (done_nil _).mono ?_
  rintro e w1 ⟨rfl, hb⟩
  have B1 : Hid (Below w.heap.size w w1) := Below.andThen (by repeat (first | exact Below.refl _ _ | apply Below.drew | apply Below.al)) hb
  have X1 : Hid (w1.heap[w.heap.size]? = some (.cells (stC kd id n d0 d1 d2 d3 d4 d5 d6 d7 r i s a len cap m code now tk) 32 (0, 0))) := blk11 hb (ext11 (ext11 (at11 _ _ _ rfl)))
  have l1 := lt_of_heap X1.out
  have n1 : w1.cell? ⟨w.heap.size, 17, none⟩ = some (.int .i64 now) := by rw [cell_of_row _ _ 17 _ _ _ X1.out]; rfl
  clear hb
  go_wp2_with (refine load9_g 25 _ rfl ⟨w.heap.size, 1, none⟩ (frV id n d0 d1 d2 d3 d4 d5 d6 d7 r) rfl (load_part 25 11 sizeF aggF _ w.heap.size 1 [.int .i64 kd, .int .u16 id, .int .i64 n, .int .u8 d0, .int .u8 d1, .int .u8 d2, .int .u8 d3, .int .u8 d4, .int .u8 d5, .int .u8 d6, .int .u8 d7, .bool r, .int .u16 i, .int .u8 s, .slice a len cap, .int .u8 m, .int .u32 code, .int .i64 now, .bool tk] _ (ext11 X1.out) (by simp)) ?_)
  with_reducible refine (hear_nil id n d0 d1 d2 d3 d4 d5 d6 d7 r now _).mono ?_
  rintro e w2 ⟨rfl, hb⟩
  have B2 : Hid (Below w.heap.size w w2) := Below.andThen (Below.al B1.out _) hb
  have X2 : Hid (w2.heap[w.heap.size]? = some (.cells (stC kd id n d0 d1 d2 d3 d4 d5 d6 d7 r i s a len cap m code now tk) 32 (0, 0))) := blk11 hb (ext11 X1.out)
  have R2 : Hid (w2.heap[w1.heap.size]? = some (.cells (rsC 0 0 false none 0 0 0) 40 (0, 0))) := blk11 hb (at11 _ _ _ rfl)
  have n2 : w2.cell? ⟨w.heap.size, 17, none⟩ = some (.int .i64 now) := by rw [cell_of_row _ _ 17 _ _ _ X2.out]; rfl
  have l2 := lt_of_heap X2.out
  clear hb n1
  go_wp2_with fail
  with_reducible refine (tick_nil now _).mono ?_
  rintro e w3 ⟨rfl, hb⟩
  have B3 : Hid (Below w.heap.size w w3) := Below.andThen B2.out hb
  have X3 : Hid (w3.heap[w.heap.size]? = some (.cells (stC kd id n d0 d1 d2 d3 d4 d5 d6 d7 r i s a len cap m code now tk) 32 (0, 0))) := blk11 hb X2.out
  have R3 : Hid (w3.heap[w1.heap.size]? = some (.cells (rsC 0 0 false none 0 0 0) 40 (0, 0))) := blk11 hb R2.out
  have c3 : w3.cell? ⟨w.heap.size, 16, none⟩ = some (.int .u32 code) := by rw [cell_of_row _ _ 16 _ _ _ X3.out]; rfl
  have l3 := lt_of_heap X3.out
  clear hb n2
  go_wp2_with fail
  with_reducible refine (stop_nil code _).mono ?_
  rintro e w9 ⟨rfl, rfl⟩
  go_wp2_with fail
  with_reducible refine (busy_nil _).mono ?_
  rintro e w9 ⟨rfl, rfl⟩
  go_wp2_with (refine load9_g 40 _ rfl ⟨w1.heap.size, 0, none⟩ _ rfl (loadRS _ _ 0 0 false none 0 0 0 _ R3.out) ?_)
  with_reducible refine (sameResult_zero _).mono ?_
  rintro e w4 ⟨rfl, hb⟩
  have B4 : Hid (Below w.heap.size w w4) := Below.andThen B3.out hb
  clear hb c3
  go_wp2_with fail
  with_reducible refine (works11 _).mono ?_
  rintro e w5 ⟨rfl, hb⟩
  have B5 : Hid (Below w.heap.size w w5) := Below.andThen B4.out hb
  clear hb
  go_wp2_with fail
  go_ret
  exact ⟨rfl, B5.out⟩
#print axioms clientNone_any
end Go.Proofs.Ytenfbebdfodmdaa
