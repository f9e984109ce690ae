/-
  The walks of newer, and of the check.
-/
import Derived.Test.YtgpbmccjcjoijaaJ1
namespace Go.Proofs.Ytgpbmccjcjoijaa
open Go.RowKit

/-- A half as a value. -/
abbrev halfV (p : Nat) (first k : Nat) (bg : Bool) (num : Int) (en : Nat) : Value := .agg #[.pointer (some ⟨p, 0, none⟩), .int .i64 first, .int .i64 k, .bool bg, .int .u8 num, .int .i64 en]

set_option maxHeartbeats 800000 in
theorem newer_any (p f1 k1 : Nat) (b1 : Bool) (n1 : Int) (e1 : Nat) (f2 k2 : Nat) (b2 : Bool) (n2 : Int) (e2 : Nat) (g1 g2 : List Gp) (h1 : 0 ≤ n1 ∧ n1 < 256) (h2 : 0 ≤ n2 ∧ n2 < 256) (w : World) :
    Calls Try.prog 34 #[halfV p f1 k1 b1 n1 e1, halfV p f2 k2 b2 n2 e2] w fun e w' => e = .returned (.bool (newerB ⟨b1, n1, e1, g1⟩ ⟨b2, n2, e2, g2⟩)) ∧ Below w.heap.size w w' := by
  obtain ⟨h1, h1'⟩ := h1
  obtain ⟨h2, h2'⟩ := h2
  unfold newerB
  cases b1 <;> cases b2
  all_goals
    go_enter Try.func34, Try.ntmps34
    go_wp2_with fail
    go_ret
  · exact ⟨rfl, Below.al (Below.al (Below.refl _ _) _) _⟩
  · exact ⟨rfl, Below.al (Below.al (Below.refl _ _) _) _⟩
  · exact ⟨rfl, Below.al (Below.al (Below.refl _ _) _) _⟩
  · refine ⟨ret_bool ?_, Below.al (Below.al (Below.refl _ _) _) _⟩
    rw [Bool.true_and, Bool.not_true, Bool.false_or, decide_eq_decide]
    simp [IntKind.wrap, IntKind.bits, IntKind.signed]
    omega
#print axioms newer_any
end Go.Proofs.Ytgpbmccjcjoijaa
