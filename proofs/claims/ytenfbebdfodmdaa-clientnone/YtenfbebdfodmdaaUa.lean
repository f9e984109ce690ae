/-
  Clients in memory; what has no transfer: New, Busy, mayBegin, and clients that are not there.
-/
import Derived.Test.YtenfbebdfodmdaaFm
import Derived.Test.YtenfbebdfodmdaaSg
import Derived.Deep.AppendSrc
import Derived.Lib.ReflectliteSwap
import Derived.Recover
import Derived.Defers
namespace Go.Proofs.Ytenfbebdfodmdaa
open Go.RowKit

/-- Only blocks of a list are touched, and new ones are laid. -/
structure Kp (S : List Nat) (w w' : World) : Prop where
  os : w'.os = w.os
  tape : w'.tape = w.tape
  output : w'.output = w.output
  size : w.heap.size ≤ w'.heap.size
  block : ∀ k, k < w.heap.size → k ∉ S → w'.heap[k]? = w.heap[k]?
theorem Kp.refl (S : List Nat) (w : World) : Kp S w w := ⟨rfl, rfl, rfl, Nat.le_refl _, fun _ _ _ => rfl⟩
theorem Kp.trans {S : List Nat} {a b c : World} (h : Kp S a b) (k : Kp S b c) : Kp S a c :=
  ⟨k.os.trans h.os, k.tape.trans h.tape, k.output.trans h.output, Nat.le_trans h.size k.size, fun i hi hs => (k.block i (Nat.lt_of_lt_of_le hi h.size) hs).trans (h.block i hi hs)⟩
theorem Kp.more {S S' : List Nat} {a b : World} (h : Kp S a b) (hs : ∀ k ∈ S, k ∈ S') : Kp S' a b := ⟨h.os, h.tape, h.output, h.size, fun i hi hn => h.block i hi (fun hm => hn (hs i hm))⟩
theorem Kp.of {S : List Nat} {a b : World} (h : Below a.heap.size a b) : Kp S a b := ⟨h.os, h.tape, h.output, h.size, fun i hi _ => h.block i hi⟩
theorem Kp.al {S : List Nat} {a b : World} (h : Kp S a b) (o : Obj) : Kp S a (b.alloc o) := h.trans (Kp.of (Below.al (Below.refl _ _) o))
theorem Kp.drew {S : List Nat} {a b : World} (h : Kp S a b) : Kp S a b.drew := ⟨h.os, h.tape, h.output, h.size, h.block⟩
theorem Kp.set {S : List Nat} {a b : World} (h : Kp S a b) (p : Addr) (v : Value) (hp : p.block ∈ S ∨ a.heap.size ≤ p.block) : Kp S a (b.setCell p v) := by
  have hs : (b.setCell p v).heap.size = b.heap.size := by simp [World.setCell]
  refine ⟨h.os, h.tape, h.output, by rw [hs]; exact h.size, fun k hk hn => ?_⟩
  rw [Below.heap_setCell _ _ _ _ (fun e => by subst e; rcases hp with hp | hp; exact hn hp; omega)]
  exact h.block k hk hn
theorem Kp.row {S : List Nat} {a b : World} (h : Kp S a b) (g : Nat) (c : Array Value) (hp : g ∈ S ∨ a.heap.size ≤ g) : Kp S a (b.setRow g c) := by
  refine ⟨h.os, h.tape, h.output, by rw [size_setRow]; exact h.size, fun k hk hn => ?_⟩
  rw [setRow_other _ _ _ _ (fun e => by subst e; rcases hp with hp | hp; exact hn hp; omega)]
  exact h.block k hk hn
theorem Kp.below {S : List Nat} {N : Nat} {a b c : World} (h : Below N a b) (k : Kp S b c) (hN : N ≤ b.heap.size) (hs : ∀ i ∈ S, N ≤ i) : Below N a c :=
  ⟨k.os.trans h.os, k.tape.trans h.tape, k.output.trans h.output, Nat.le_trans h.size k.size, fun i hi => (k.block i (Nat.lt_of_lt_of_le hi hN) (fun hm => absurd (hs i hm) (by omega))).trans (h.block i hi)⟩
/-- Blocks that were new ahead need not be told. -/
theorem Kp.fresh {S S' : List Nat} {a b c : World} (h : Kp S a b) (k : Kp S' b c) (hs : ∀ i ∈ S', i ∈ S ∨ a.heap.size ≤ i) : Kp S a c :=
  ⟨k.os.trans h.os, k.tape.trans h.tape, k.output.trans h.output, Nat.le_trans h.size k.size, fun i hi hn => (k.block i (Nat.lt_of_lt_of_le hi h.size) (fun hm => (hs i hm).elim hn (fun h => by omega))).trans (h.block i hi hn)⟩

theorem Kp.bel {w w' : World} (h : Kp [] w w') : Below w.heap.size w w' := ⟨h.os, h.tape, h.output, h.size, fun k hk => h.block k hk (by simp)⟩
theorem lt_of_heap {w : World} {k : Nat} {o : Obj} (h : w.heap[k]? = some o) : k < w.heap.size := (Array.getElem?_eq_some_iff.1 h).1


/-- A client's cells. -/
abbrev clC (A wt : Int) (tp rp : Option Addr) : Array Value := #[.int .u8 A, .int .i64 wt, .pointer tp, .pointer rp]
/-- A transfer's cells. -/
abbrev trC (i s : Int) (wr q : Bool) (last waits : Int) (tg ck : Bool) (a : Option Addr) (len cap : Nat) (sz : Bool) (size next dn asked : Int) : Array Value :=
  #[.int .u16 i, .int .u8 s, .bool wr, .bool q, .int .i64 last, .int .u8 waits, .bool tg, .bool ck, .slice a len cap, .bool sz, .int .i64 size, .int .i64 next, .int .i64 dn, .int .i64 asked]
/-- A result's cells. -/
abbrev rsC (i s : Int) (wr : Bool) (a : Option Addr) (len cap : Nat) (code : Int) : Array Value := #[.int .u16 i, .int .u8 s, .bool wr, .slice a len cap, .int .u32 code]
abbrev plV (i s : Int) : Value := .agg #[.int .u16 i, .int .u8 s]
theorem sizeP : (Try.prog.info? 27).map (·.size) = some 2 := by kernel_rfl
theorem aggP (w : World) : (isAgg 27).run Try.prog w = .ok true w := by kernel_rfl
theorem sizeF : (Try.prog.info? 25).map (·.size) = some 11 := by kernel_rfl
theorem aggF (w : World) : (isAgg 25).run Try.prog w = .ok true w := by kernel_rfl
theorem sizeRS : (Try.prog.info? 40).map (·.size) = some 5 := by kernel_rfl
theorem aggRS (w : World) : (isAgg 40).run Try.prog w = .ok true w := by kernel_rfl

set_option linter.unusedSimpArgs false in
set_option maxHeartbeats 4000000 in
set_option maxRecDepth 100000 in
theorem new_any (A wt : Int) (w : World) (h1 : 1 ≤ A) (h2 : A ≤ 127) (h3 : 1 ≤ wt) (h4 : wt ≤ 1099511627776) :
    Calls Try.prog 24 #[.int .u8 A, .int .i64 wt] w fun e w' => e = .returned (.tuple #[.pointer (some ⟨w.heap.size, 0, none⟩), .int .i64 0]) ∧ w' = w.alloc (.cells (clC A wt none none) 60) := by
  have b1 : ¬ A < 1 := by omega
  have b2 : ¬ 127 < A := by omega
  have b3 : ¬ wt < 1 := by omega
  have b4 : ¬ 1099511627776 < wt := by omega
  go_enter Try.func24, Try.ntmps24
  go_wp2_with fail
  go_ret2
  exact ⟨rfl, rfl⟩

set_option linter.unusedSimpArgs false in
set_option maxHeartbeats 4000000 in
set_option maxRecDepth 100000 in
theorem busy_nil (w : World) : Calls Try.prog 10 #[.pointer none] w fun e w' => e = .returned (.bool false) ∧ w' = w := by
  go_enter Try.func10, Try.ntmps10
  go_wp2_with fail
  go_ret
  exact ⟨rfl, rfl⟩
set_option linter.unusedSimpArgs false in
set_option maxHeartbeats 4000000 in
set_option maxRecDepth 100000 in
theorem busy_no (p : Nat) (A wt : Int) (rp : Option Addr) (w : World) (h : w.heap[p]? = some (.cells (clC A wt none rp) 60 (0, 0))) :
    Calls Try.prog 10 #[.pointer (some ⟨p, 0, none⟩)] w fun e w' => e = .returned (.bool false) ∧ w' = w := by
  have c2 : w.cell? ⟨p, 2, none⟩ = some (.pointer none) := by rw [cell_of_row w _ 2 _ _ _ h]; rfl
  clear h
  go_enter Try.func10, Try.ntmps10
  go_wp2_with fail
  go_ret
  exact ⟨rfl, rfl⟩
set_option linter.unusedSimpArgs false in
set_option maxHeartbeats 4000000 in
set_option maxRecDepth 100000 in
theorem busy_on (p t : Nat) (A wt : Int) (rp : Option Addr) (w : World) (h : w.heap[p]? = some (.cells (clC A wt (some ⟨t, 0, none⟩) rp) 60 (0, 0))) :
    Calls Try.prog 10 #[.pointer (some ⟨p, 0, none⟩)] w fun e w' => e = .returned (.bool true) ∧ w' = w := by
  have c2 : w.cell? ⟨p, 2, none⟩ = some (.pointer (some ⟨t, 0, none⟩)) := by rw [cell_of_row w _ 2 _ _ _ h]; rfl
  clear h
  go_enter Try.func10, Try.ntmps10
  go_wp2_with fail
  go_ret
  exact ⟨rfl, rfl⟩

set_option linter.unusedSimpArgs false in
set_option maxHeartbeats 4000000 in
set_option maxRecDepth 100000 in
theorem mayBegin_nil (m len : Int) (w : World) : Calls Try.prog 13 #[.pointer none, .int .u8 m, .int .i64 len] w fun e w' => e = .returned (.int .i64 1) ∧ w' = w := by
  go_enter Try.func13, Try.ntmps13
  go_wp2_with fail
  go_ret
  exact ⟨rfl, rfl⟩
set_option linter.unusedSimpArgs false in
set_option maxHeartbeats 4000000 in
set_option maxRecDepth 100000 in
theorem mayBegin_ok (p : Nat) (A wt : Int) (rp : Option Addr) (m len : Int) (w : World) (h : w.heap[p]? = some (.cells (clC A wt none rp) 60 (0, 0))) (hm : m ≤ 2) (hl : len ≤ 4096) :
    Calls Try.prog 13 #[.pointer (some ⟨p, 0, none⟩), .int .u8 m, .int .i64 len] w fun e w' => e = .returned (.int .i64 0) ∧ w' = w := by
  have HB : Hid (∀ W, W = w → Calls Try.prog 10 #[.pointer (some ⟨p, 0, none⟩)] W fun e w' => e = .returned (.bool false) ∧ w' = W) := fun W e => by subst e; exact busy_no p A wt rp W h
  clear h
  have b1 : ¬ 2 < m := by omega
  have b2 : ¬ 4096 < len := by omega
  go_enter Try.func13, Try.ntmps13
  go_wp2_with fail
  refine (HB.out w rfl).mono ?_
  rintro e w1 ⟨rfl, rfl⟩
  go_wp2_with fail
  go_ret
  exact ⟨rfl, rfl⟩

set_option linter.unusedSimpArgs false in
set_option maxHeartbeats 4000000 in
set_option maxRecDepth 100000 in
theorem write_nil (i s : Int) (a : Option Addr) (len cap : Nat) (m now : Int) (w : World) :
    Calls Try.prog 4 #[.pointer none, plV i s, .slice a len cap, .int .u8 m, .int .i64 now] w fun e w' => e = .returned (.tuple #[.slice none 0 0, .int .i64 1]) ∧ w' = w.alloc (.cells #[.int .u16 i, .int .u8 s] 27) := by
  go_enter Try.func4, Try.ntmps4
  go_wp2_with fail
  refine (mayBegin_nil _ _ _).mono ?_
  rintro e w1 ⟨rfl, rfl⟩
  go_wp2_with fail
  go_ret2
  exact ⟨rfl, rfl⟩
set_option linter.unusedSimpArgs false in
set_option maxHeartbeats 4000000 in
set_option maxRecDepth 100000 in
theorem read_nil (i s : Int) (m now : Int) (w : World) :
    Calls Try.prog 5 #[.pointer none, plV i s, .int .u8 m, .int .i64 now] w fun e w' => e = .returned (.tuple #[.slice none 0 0, .int .i64 1]) ∧ w' = w.alloc (.cells #[.int .u16 i, .int .u8 s] 27) := by
  go_enter Try.func5, Try.ntmps5
  go_wp2_with fail
  refine (mayBegin_nil _ _ _).mono ?_
  rintro e w1 ⟨rfl, rfl⟩
  go_wp2_with fail
  go_ret2
  exact ⟨rfl, rfl⟩
set_option linter.unusedSimpArgs false in
set_option maxHeartbeats 4000000 in
set_option maxRecDepth 100000 in
theorem stop_nil (c : Int) (w : World) : Calls Try.prog 9 #[.pointer none, .int .u32 c] w fun e w' => e = .returned (.slice none 0 0) ∧ w' = w := by
  go_enter Try.func9, Try.ntmps9
  go_wp2_with fail
  refine (busy_nil _).mono ?_
  rintro e w1 ⟨rfl, rfl⟩
  go_wp2_with fail
  go_ret
  exact ⟨rfl, rfl⟩
#print axioms stop_nil
end Go.Proofs.Ytenfbebdfodmdaa
