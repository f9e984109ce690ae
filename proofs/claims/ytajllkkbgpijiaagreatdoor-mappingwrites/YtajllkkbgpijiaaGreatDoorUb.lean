/-
  Done, Hear and Tick of a client that is not there; a result that is taken.
-/
import Derived.Test.YtajllkkbgpijiaaGreatDoorUa
import Derived.Deep.RegionHeld3
namespace Go.Proofs.YtajllkkbgpijiaaGreatDoor
open Go.RowKit

theorem ext11 {W : World} {j : Nat} {o v : Obj} (h : W.heap[j]? = some v) : (W.alloc o).heap[j]? = some v := (Below.heap_alloc _ _ _ (Array.getElem?_eq_some_iff.1 h).1).trans h
theorem at11 (w : World) (o : Obj) (j : Nat) (h : j = w.heap.size) : (w.alloc o).heap[j]? = some o := by subst h; exact heap_new w o
theorem blk11 {W W' : World} {j : Nat} {v : Obj} (hb : Below W.heap.size W W') (h : W.heap[j]? = some v) : W'.heap[j]? = some v := (hb.block _ (Array.getElem?_eq_some_iff.1 h).1).trans h
theorem Kp.at {S : List Nat} {W W' : World} {j : Nat} {v : Obj} (hb : Kp S W W') (hj : j ∉ S) (h : W.heap[j]? = some v) : W'.heap[j]? = some v := (hb.block _ (Array.getElem?_eq_some_iff.1 h).1 hj).trans h
theorem froz11 (w : World) (B j : Nat) (C : Array Value) (T : TypeId) (h : w.heap[B]? = some (.cells C T (0, 0))) : w.frozen? ⟨B, j, none⟩ = false := by
  simp [World.frozen?, h]








end Go.Proofs.YtajllkkbgpijiaaGreatDoor
