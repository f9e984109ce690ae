/-
  The document's Send.
-/
import Derived.Test.YtndlpjfofjikeaaCk4
namespace Go.Proofs.Ytndlpjfofjikeaa
open Go.RowKit

/-- How many go ahead of one. -/
def aheadN (y : Sn) : List Sn → Nat
  | [] => 0
  | x :: l => if aheadB x y = true then aheadN y l + 1 else 0
theorem at_cons (x : Sn) (l : List Sn) (k : Nat) : at_ (x :: l) (k + 1) = at_ l k := rfl
theorem aheadN_le (y : Sn) : ∀ (l : List Sn), aheadN y l ≤ l.length
  | [] => Nat.le_refl _
  | x :: l => by
    have := aheadN_le y l
    unfold aheadN
    split <;> simp only [List.length_cons] <;> omega
theorem aheadN_lt (y : Sn) : ∀ (l : List Sn) (k : Nat), k < aheadN y l → aheadB (at_ l k) y = true
  | [], k, h => by unfold aheadN at h; omega
  | x :: l, k, h => by
    unfold aheadN at h
    split at h
    · rename_i c
      cases k with
      | zero => exact c
      | succ k => rw [at_cons]; exact aheadN_lt y l k (by omega)
    · omega
theorem aheadN_stop (y : Sn) : ∀ (l : List Sn), aheadN y l < l.length → aheadB (at_ l (aheadN y l)) y = false
  | [], h => by simp at h
  | x :: l, h => by
    unfold aheadN at h ⊢
    by_cases c : aheadB x y = true
    · rw [if_pos c] at h ⊢
      rw [at_cons]
      exact aheadN_stop y l (by simp only [List.length_cons] at h; omega)
    · rw [if_neg c]
      simp at c
      exact c
/-- One put among others in its order. -/
def insN (y : Sn) (l : List Sn) : List Sn := l.take (aheadN y l) ++ [y] ++ l.drop (aheadN y l)

set_option linter.unusedSimpArgs false in
set_option maxHeartbeats 4000000 in
set_option maxRecDepth 100000 in
theorem rsend_bad {w : World} {p : Nat} {v : Value} {l : List Sn} {n : Int} (h : IsD w p v l n) (y : Sn) (hb : sndE y.nd y.ok l.length ≠ 0) :
    Calls Try.prog 23 #[.pointer (some ⟨p, 0, none⟩), .int .i64 y.nd, .agg #[.int .u16 y.i, .int .i64 y.n, .int .u8 y.d0, .int .u8 y.d1, .int .u8 y.d2, .int .u8 y.d3, .int .u8 y.d4, .int .u8 y.d5, .int .u8 y.d6, .int .u8 y.d7, .bool y.r]] w fun e w' => e = .returned (.int .i64 (sndE y.nd y.ok l.length)) ∧ Below w.heap.size w w' := by
  have RI := fun w => refRight_any y.i y.n y.d0 y.d1 y.d2 y.d3 y.d4 y.d5 y.d6 y.d7 y.r w
  have hx : Below w.heap.size w (w.alloc (.cells #[.int .u16 y.i, .int .i64 y.n, .int .u8 y.d0, .int .u8 y.d1, .int .u8 y.d2, .int .u8 y.d3, .int .u8 y.d4, .int .u8 y.d5, .int .u8 y.d6, .int .u8 y.d7, .bool y.r] 27)) := Below.al (Below.refl _ _) _
  by_cases c1 : y.nd < 0
  · rw [show sndE y.nd y.ok l.length = 2 from by unfold sndE; rw [if_pos c1]]
    clear h RI hb
    go_enter Try.func23, Try.ntmps23
    go_wp2_with fail
    go_ret
    exact ⟨rfl, hx⟩
  cases c2 : y.ok with
  | false =>
    rw [show sndE y.nd false l.length = 30 from by unfold sndE; rw [if_neg c1, if_pos rfl]]
    have c3 : rightB y.i y.n [y.d0, y.d1, y.d2, y.d3, y.d4, y.d5, y.d6, y.d7] y.r = false := c2
    rw [c3] at RI
    clear h hb c2 c3
    go_enter Try.func23, Try.ntmps23
    go_wp2_with fail
    refine (RI _).mono ?_
    rintro e z ⟨rfl, bz⟩
    clear RI
    go_wp2_with fail
    go_ret
    exact ⟨rfl, Below.andThen hx bz⟩
  | true =>
    have hl : 512 ≤ l.length := by
      apply Classical.byContradiction
      intro e
      apply hb
      unfold sndE
      rw [if_neg c1, c2, if_neg (by decide), if_neg e]
    rw [show sndE y.nd true l.length = 40 from by unfold sndE; rw [if_neg c1, if_neg (by decide), if_pos hl]]
    have c3 : rightB y.i y.n [y.d0, y.d1, y.d2, y.d3, y.d4, y.d5, y.d6, y.d7] y.r = true := c2
    rw [c3] at RI
    obtain ⟨a, cap, rfl⟩ := isR_form h.r
    have gl : (512 : Int) ≤ (l.length : Int) := by omega
    have gl2 : (l.length : Int) ≥ 512 := by omega
    have HN : Hid (∀ z, Below w.heap.size w z → IsD z p (.slice a l.length cap) l n) := fun z hz => h.next hz
    clear h hb c2 c3
    go_enter Try.func23, Try.ntmps23
    go_wp2_with fail
    refine (RI _).mono ?_
    rintro e z ⟨rfl, bz⟩
    have k0 := (HN.out z (Below.andThen hx bz)).c0
    clear RI
    go_wp2_with fail
    go_ret
    exact ⟨rfl, Below.andThen hx bz⟩
#print axioms rsend_bad
end Go.Proofs.Ytndlpjfofjikeaa
