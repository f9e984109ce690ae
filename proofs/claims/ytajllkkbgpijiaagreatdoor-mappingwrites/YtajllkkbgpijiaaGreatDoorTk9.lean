/-
  A region that draws its order, op by op: short names.
-/
import Derived.Test.YtajllkkbgpijiaaGreatDoorBas
import Derived.Deep.RegionHeld3
namespace Go.Proofs.YtajllkkbgpijiaaGreatDoor
open Go.RowKit

/-- An operation of a region is taken. -/
theorem tk {P : Program} {md : Region.Mode} {ops : Array Oper} {Q : Exit → Act → World → Prop} {S : World → Prop} {oi : Oper} {fuel : Nat} {listed : Array Bool} {a : Act} {w : World} (i : Nat) (v : Value) (hi : ops[i]? = some oi) (hy : YieldsIf P ops S oi v a)
    (h : wpAnyH P md ops Q S fuel (listed.setIfInBounds i true) (a.put oi.dst v) w) (hs : Region.noSelect ops = true := by kernel_rfl) (hf : Region.free md ops listed i = true := by kernel_rfl) (hr : (Region.ready md ops listed).contains i = true := by kernel_rfl)
    (hQ : ∀ c a w, Q (.panic c) (a.put oi.dst v) w → Q (.panic c) a w := by exact fun _ _ _ h => h) (hS : S w := by assumption) : wpAnyH P md ops Q S (fuel + 1) listed a w := wpAnyH_take hi hs hf hr hQ hy hS h
theorem gA : type_of% @List.getElem_toArray := @List.getElem_toArray
theorem gS : type_of% @List.getElem_cons_succ := @List.getElem_cons_succ
theorem gZ : type_of% @List.getElem_cons_zero := @List.getElem_cons_zero
theorem sA : type_of% @List.setIfInBounds_toArray := @List.setIfInBounds_toArray
theorem sZ : type_of% @List.set_cons_zero := @List.set_cons_zero
theorem sS : type_of% @List.set_cons_succ := @List.set_cons_succ
end Go.Proofs.YtajllkkbgpijiaaGreatDoor
