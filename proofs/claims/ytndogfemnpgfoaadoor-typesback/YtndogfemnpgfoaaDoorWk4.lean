/-
  The walk of Value at the text 3p-1 as a float of 4 bytes: what works asks.
-/
import Derived.Test.YtndogfemnpgfoaaDoorWk3
namespace Go.Proofs.YtndogfemnpgfoaaDoor
open Pl Go.RowKit

theorem catch_idle (p q : Addr) (w : World) :
    CallsD Tryd.prog 17 #[.pointer (some p), .pointer (some q)] .returning w fun e u' w' => e = .returned (.tuple #[]) ∧ u' = .returning ∧ w' = w := by
  refine callsD_of_wpS Tryd.func17 rfl fun c₀ cs hu => ?_
  apply wpS_seq
  apply wpS_region
  simp [wpOpsS, go_sem, recoverD, hu, Tryd.ntmps17, Exit.thenS]
  refine wpS_cond (t := false) (by simp [Act.eval, Array.replicate]) ?_
  simp only [Bool.false_eq_true, if_false]
  refine wpS_of_wp (wp_skip ?_)
  cases c₀
  simp_all [bodyPostS, results, Tryd.results17]

set_option maxHeartbeats 2000000 in
set_option maxRecDepth 100000 in
theorem value_3 (w : World) (hT : Tab64 w) : Calls Tryd.prog 8 #[.int .u8 8, .string ⟨#[51, 112, 45, 49]⟩] w fun r w' => ∃ g : Nat, r = .returned (.tuple #[.slice (some ⟨g, 0, none⟩) 4 4, .int .i64 0]) ∧ Row w' (some ⟨g, 0, none⟩) 4 [0, 0, 192, 63] ∧ Below w.heap.size w w' := by
  have hmf : ∀ (fn : Fn) (first cap : Array Value) (w : World), (Instr.makeFunc fn first cap).run Tryd.prog w = .ok (.func fn first cap) w := fun _ _ _ _ => rfl
  have old := hT.old
  go_enter_defers Tryd.func8, Tryd.ntmps8
  go_wp2_with fail
  refine (kindOf_any _ _).mono ?_
  rw [show kindN 8 = 4 from by decide, show sizeN 8 = 4 from by decide]
  rintro e x ⟨rfl, rfl⟩
  go_wp2_with fail
  refine (readValue_3 _ (hT.below (Below.al (Below.al (Below.refl _ _) _) _) old)).mono ?_
  rintro e w1 ⟨g, rfl, hg, hr, hb⟩
  have B1 : Below w.heap.size w w1 := Below.andThen (Below.al (Below.al (Below.refl _ _) _) _) hb
  have c0 : w1.cell? ⟨w.heap.size, 0, none⟩ = some (.slice none 0 0) := (hb.cell (by simp <;> omega)).trans (by simp [go_sem])
  have c1 : w1.cell? ⟨w.heap.size + 1, 0, none⟩ = some (.int .i64 0) := (hb.cell (by simp <;> omega)).trans (by simp [go_sem])
  have z0 : w1.frozen? ⟨w.heap.size, 0, none⟩ = false := (hb.frozen (by simp <;> omega)).trans (by simp [go_sem])
  have z1 : w1.frozen? ⟨w.heap.size + 1, 0, none⟩ = false := (hb.frozen (by simp <;> omega)).trans (by simp [go_sem])
  have hg' : w.heap.size + 1 < g := by simp at hg; omega
  clear hb
  go_wp2_with fail
  refine leaves_cons (f := 17) (args := #[.pointer (some ⟨w.heap.size, 0, none⟩), .pointer (some ⟨w.heap.size + 1, 0, none⟩)]) (by simp) (by simp [go_sem]) ?_
  refine (catch_idle _ _ _).mono ?_
  rintro e u' w'' ⟨rfl, rfl, rfl⟩
  have ne : (⟨w.heap.size, 0, none⟩ : Addr) ≠ ⟨w.heap.size + 1, 0, none⟩ := fun h => by have := congrArg Addr.block h; simp at this
  have q0 : ((w1.setCell ⟨w.heap.size, 0, none⟩ (.slice (some ⟨g, 0, none⟩) 4 4)).setCell ⟨w.heap.size + 1, 0, none⟩ (.int .i64 0)).cell? ⟨w.heap.size, 0, none⟩ = some (.slice (some ⟨g, 0, none⟩) 4 4) := by
    rw [World.cell?_setCell_other _ _ _ _ ne.symm]; exact World.cell?_setCell_same _ _ _ c0
  have q1 : ((w1.setCell ⟨w.heap.size, 0, none⟩ (.slice (some ⟨g, 0, none⟩) 4 4)).setCell ⟨w.heap.size + 1, 0, none⟩ (.int .i64 0)).cell? ⟨w.heap.size + 1, 0, none⟩ = some (.int .i64 0) :=
    World.cell?_setCell_same _ _ _ ((World.cell?_setCell_other _ _ _ _ ne).trans c1)
  have B2 : Below w.heap.size w ((w1.setCell ⟨w.heap.size, 0, none⟩ (.slice (some ⟨g, 0, none⟩) 4 4)).setCell ⟨w.heap.size + 1, 0, none⟩ (.int .i64 0)) :=
    (B1.setCell (by exact Nat.le_refl _) _).setCell (by exact Nat.le_succ _) _
  have r2 : Row ((w1.setCell ⟨w.heap.size, 0, none⟩ (.slice (some ⟨g, 0, none⟩) 4 4)).setCell ⟨w.heap.size + 1, 0, none⟩ (.int .i64 0)) (some ⟨g, 0, none⟩) 4 [0, 0, 192, 63] := by
    obtain ⟨h1, h2, h3⟩ := hr
    refine ⟨h1, h2, fun hp => ?_⟩
    obtain ⟨b, off, e, hc⟩ := h3 hp
    refine ⟨b, off, e, fun i hi => ?_⟩
    cases e
    rw [World.cell?_setCell_other _ _ _ _ (fun h => by have := congrArg Addr.block h; simp at this; omega), World.cell?_setCell_other _ _ _ _ (fun h => by have := congrArg Addr.block h; simp at this; omega)]
    exact hc i hi
  generalize ((w1.setCell ⟨w.heap.size, 0, none⟩ (.slice (some ⟨g, 0, none⟩) 4 4)).setCell ⟨w.heap.size + 1, 0, none⟩ (.int .i64 0)) = W2 at q0 q1 B2 r2 ⊢
  simp [Leaves, settle, results, Tryd.results8, go_sem, q0, q1]
  exact ⟨r2, B2⟩
end Go.Proofs.YtndogfemnpgfoaaDoor
