/-
  Clients in memory; what has no transfer: New, Busy, mayBegin, and clients that are not there.
-/
import Derived.Test.YtajllkkbgpijiaaGreatDoorFm
import Derived.Test.YtajllkkbgpijiaaGreatDoorSg
import Derived.Deep.AppendSrc
import Derived.Lib.ReflectliteSwap
import Derived.Recover
import Derived.Defers
namespace Go.Proofs.YtajllkkbgpijiaaGreatDoor
open Go.RowKit

/-- Only blocks of a list are touched, and new ones are laid. -/
structure Kp (S : List Nat) (w w' : World) : Prop where
  os : w'.os = w.os
  tape : w'.tape = w.tape
  output : w'.output = w.output
  size : w.heap.size ≤ w'.heap.size
  block : ∀ k, k < w.heap.size → k ∉ S → w'.heap[k]? = w.heap[k]?
theorem Kp.refl (S : List Nat) (w : World) : Kp S w w := ⟨rfl, rfl, rfl, Nat.le_refl _, fun _ _ _ => rfl⟩
theorem Kp.trans {S : List Nat} {a b c : World} (h : Kp S a b) (k : Kp S b c) : Kp S a c :=
  ⟨k.os.trans h.os, k.tape.trans h.tape, k.output.trans h.output, Nat.le_trans h.size k.size, fun i hi hs => (k.block i (Nat.lt_of_lt_of_le hi h.size) hs).trans (h.block i hi hs)⟩
theorem Kp.more {S S' : List Nat} {a b : World} (h : Kp S a b) (hs : ∀ k ∈ S, k ∈ S') : Kp S' a b := ⟨h.os, h.tape, h.output, h.size, fun i hi hn => h.block i hi (fun hm => hn (hs i hm))⟩
theorem Kp.of {S : List Nat} {a b : World} (h : Below a.heap.size a b) : Kp S a b := ⟨h.os, h.tape, h.output, h.size, fun i hi _ => h.block i hi⟩
theorem Kp.al {S : List Nat} {a b : World} (h : Kp S a b) (o : Obj) : Kp S a (b.alloc o) := h.trans (Kp.of (Below.al (Below.refl _ _) o))
theorem Kp.drew {S : List Nat} {a b : World} (h : Kp S a b) : Kp S a b.drew := ⟨h.os, h.tape, h.output, h.size, h.block⟩
theorem Kp.set {S : List Nat} {a b : World} (h : Kp S a b) (p : Addr) (v : Value) (hp : p.block ∈ S ∨ a.heap.size ≤ p.block) : Kp S a (b.setCell p v) := by
  have hs : (b.setCell p v).heap.size = b.heap.size := by simp [World.setCell]
  refine ⟨h.os, h.tape, h.output, by rw [hs]; exact h.size, fun k hk hn => ?_⟩
  rw [Below.heap_setCell _ _ _ _ (fun e => by subst e; rcases hp with hp | hp; exact hn hp; omega)]
  exact h.block k hk hn
theorem Kp.row {S : List Nat} {a b : World} (h : Kp S a b) (g : Nat) (c : Array Value) (hp : g ∈ S ∨ a.heap.size ≤ g) : Kp S a (b.setRow g c) := by
  refine ⟨h.os, h.tape, h.output, by rw [size_setRow]; exact h.size, fun k hk hn => ?_⟩
  rw [setRow_other _ _ _ _ (fun e => by subst e; rcases hp with hp | hp; exact hn hp; omega)]
  exact h.block k hk hn
theorem Kp.below {S : List Nat} {N : Nat} {a b c : World} (h : Below N a b) (k : Kp S b c) (hN : N ≤ b.heap.size) (hs : ∀ i ∈ S, N ≤ i) : Below N a c :=
  ⟨k.os.trans h.os, k.tape.trans h.tape, k.output.trans h.output, Nat.le_trans h.size k.size, fun i hi => (k.block i (Nat.lt_of_lt_of_le hi hN) (fun hm => absurd (hs i hm) (by omega))).trans (h.block i hi)⟩
/-- Blocks that were new ahead need not be told. -/
theorem Kp.fresh {S S' : List Nat} {a b c : World} (h : Kp S a b) (k : Kp S' b c) (hs : ∀ i ∈ S', i ∈ S ∨ a.heap.size ≤ i) : Kp S a c :=
  ⟨k.os.trans h.os, k.tape.trans h.tape, k.output.trans h.output, Nat.le_trans h.size k.size, fun i hi hn => (k.block i (Nat.lt_of_lt_of_le hi h.size) (fun hm => (hs i hm).elim hn (fun h => by omega))).trans (h.block i hi hn)⟩

theorem Kp.bel {w w' : World} (h : Kp [] w w') : Below w.heap.size w w' := ⟨h.os, h.tape, h.output, h.size, fun k hk => h.block k hk (by simp)⟩
theorem lt_of_heap {w : World} {k : Nat} {o : Obj} (h : w.heap[k]? = some o) : k < w.heap.size := (Array.getElem?_eq_some_iff.1 h).1


/-- A client's cells. -/
abbrev clC (A wt : Int) (tp rp : Option Addr) : Array Value := #[.int .u8 A, .int .i64 wt, .pointer tp, .pointer rp]
/-- A transfer's cells. -/
abbrev trC (i s : Int) (wr q : Bool) (last waits : Int) (tg ck : Bool) (a : Option Addr) (len cap : Nat) (sz : Bool) (size next dn asked : Int) : Array Value :=
  #[.int .u16 i, .int .u8 s, .bool wr, .bool q, .int .i64 last, .int .u8 waits, .bool tg, .bool ck, .slice a len cap, .bool sz, .int .i64 size, .int .i64 next, .int .i64 dn, .int .i64 asked]
/-- A result's cells. -/
abbrev rsC (i s : Int) (wr : Bool) (a : Option Addr) (len cap : Nat) (code : Int) : Array Value := #[.int .u16 i, .int .u8 s, .bool wr, .slice a len cap, .int .u32 code]
abbrev plV (i s : Int) : Value := .agg #[.int .u16 i, .int .u8 s]
theorem sizeP : (Tryz.prog.info? 43).map (·.size) = some 2 := by kernel_rfl
theorem aggP (w : World) : (isAgg 43).run Tryz.prog w = .ok true w := by kernel_rfl








end Go.Proofs.YtajllkkbgpijiaaGreatDoor
