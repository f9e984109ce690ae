/-
  The law's works.
-/
import Derived.Test.YtlijkgkkoahajaaYh
namespace Go.Proofs.Ytlijkgkkoahajaa
open Go.RowKit

theorem frC_at {w : World} {B : Nat} {i n d0 d1 d2 d3 d4 d5 d6 d7 : Int} {r : Bool} (h : w.heap[B]? = some (.cells (frC i n d0 d1 d2 d3 d4 d5 d6 d7 r) 39 (0, 0))) : w.cell? ⟨B, 0, none⟩ = some (.int .u16 i) ∧ w.cell? ⟨B, 1, none⟩ = some (.int .i64 n) ∧ w.cell? ⟨B, 2, none⟩ = some (.int .u8 d0) ∧ w.cell? ⟨B, 3, none⟩ = some (.int .u8 d1) ∧ w.cell? ⟨B, 4, none⟩ = some (.int .u8 d2) ∧ w.cell? ⟨B, 5, none⟩ = some (.int .u8 d3) ∧ w.cell? ⟨B, 6, none⟩ = some (.int .u8 d4) ∧ w.cell? ⟨B, 7, none⟩ = some (.int .u8 d5) ∧ w.cell? ⟨B, 8, none⟩ = some (.int .u8 d6) ∧ w.cell? ⟨B, 9, none⟩ = some (.int .u8 d7) ∧ w.cell? ⟨B, 10, none⟩ = some (.bool r) := by
  refine ⟨?_, ?_, ?_, ?_, ?_, ?_, ?_, ?_, ?_, ?_, ?_⟩ <;> (rw [cell_of_row w B _ _ _ _ h]; rfl)

set_option linter.unusedSimpArgs false in
set_option maxHeartbeats 4000000 in
set_option maxRecDepth 100000 in
theorem works_any (w : World) : Calls Try.prog 9 #[] w fun e w' => e = .returned (.bool true) ∧ Below w.heap.size w w' := by
  have NP := fun W => newP_ok 128 10 3 (by decide) W
  have ST := fun p W hp => start_all p 128 10 3 false 0 0 5 (by decide) (by decide) W hp
  have T1 := fun p W hp => tick_all p 128 10 3 true 15 1 14 (by decide) (by decide) (by decide) (by decide) (fun _ => by decide) W hp
  have T2 := fun p W hp => tick_all p 128 10 3 true 15 1 15 (by decide) (by decide) (by decide) (by decide) (fun _ => by decide) W hp
  have T3 := fun p W hp => tick_all p 128 10 3 true 25 2 38 (by decide) (by decide) (by decide) (by decide) (fun _ => by decide) W hp
  have DU := fun p W hp => due_yes p 128 3 10 45 3 W hp
  rw [show tkk 128 10 3 true 15 1 14 = ⟨0, 0, 0, false, 15, 1⟩ from by simp [tkk, tmB]] at T1
  rw [show tkk 128 10 3 true 15 1 15 = ⟨128, 1, 1, true, 25, 2⟩ from by simp [tkk, tmB, nxt]] at T2
  rw [show tkk 128 10 3 true 25 2 38 = ⟨128, 1, 2, true, 45, 3⟩ from by simp [tkk, tmB, nxt]] at T3
  rw [show tmB 5 = true from by decide] at ST
  dsimp only [Bool.true_or, if_true] at ST T1 T2 T3
  have hq : ∀ W : World, (binOp .eql 39 (frV 128 1 1 0 0 0 0 0 0 0 false) (frV 128 1 1 0 0 0 0 0 0 0 false)).run Try.prog W = .ok (.bool true) W := fun W => by rw [eqlF, sameF_self]
  go_enter Try.func9, Try.ntmps9
  go_wp2_with fail
  refine (NP _).mono ?_
  rintro e w1 ⟨⟨p, rfl, hlp, hp⟩, b1⟩
  go_wp2_with fail
  refine (ST p _ hp).mono ?_
  rintro e w2 ⟨rfl, hp, k2⟩
  clear NP ST
  go_wp2_with fail
  have hp2 : w2.heap[p]? = some (.cells (prC 128 3 10 true 15 1) 81 (0, 0)) := hp
  clear hp
  have K2 : Below w.heap.size w w2 := Kp.below b1 k2 b1.size (by intro i hi; simp at hi; omega)
  refine (T1 p _ hp2).mono ?_
  rintro e w3 ⟨rfl, hp3, k3⟩
  have K3 : Below w.heap.size w w3 := Kp.below K2 k3 K2.size (by intro i hi; simp at hi; omega)
  clear b1 k2 hp2 T1 k3 K2
  go_wp2_with fail
  refine (T2 p _ (ext11 hp3)).mono ?_
  rintro e w4 ⟨rfl, hp4, k4⟩
  have K4 : Below w.heap.size w w4 := Kp.below (Below.al K3 _) k4 (Below.al K3 _).size (by intro i hi; simp at hi; omega)
  clear k4 hp3 T2
  go_wp2_with fail
  refine (T3 p _ (ext11 hp4)).mono ?_
  rintro e w5 ⟨rfl, hp5, k5⟩
  have lp4 : p < w4.heap.size := lt_of_heap hp4
  have K5 : Below w.heap.size w w5 := Kp.below (Below.al K4 _) k5 (Below.al K4 _).size (by intro i hi; simp at hi; omega)
  have F5 : w5.heap[w4.heap.size]? = some (.cells (frC 128 1 1 0 0 0 0 0 0 0 false) 39 (0, 0)) := Kp.at k5 (by simp; omega) (at11 _ _ _ rfl)
  obtain ⟨f0, f1, f2, f3, f4, f5, f6, f7, f8, f9, f10⟩ := frC_at F5
  have lf : w4.heap.size < w5.heap.size := lt_of_heap F5
  clear F5 k5 hp4 T3
  go_wp2_with fail
  refine (DU p _ (ext11 hp5)).mono ?_
  rintro e w6 ⟨rfl, rfl⟩
  go_wp2_with fail
  go_ret
  exact ⟨rfl, Below.al K5 _⟩
#print axioms works_any
end Go.Proofs.Ytlijkgkkoahajaa
