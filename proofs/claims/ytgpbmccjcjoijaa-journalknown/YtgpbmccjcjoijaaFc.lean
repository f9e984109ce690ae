/-
  The small methods of a flash: how many sectors, whether it is off, its steps, what it refuses, what is armed.
-/
import Derived.Test.YtgpbmccjcjoijaaFb
namespace Go.Proofs.Ytgpbmccjcjoijaa
open Go.RowKit

set_option maxHeartbeats 2000000 in
set_option maxRecDepth 100000 in
theorem sectors_any {w : World} {p B n cap : Nat} {cs : List Int} {st : Int} {ar : Bool} {lf : Int} {of : Bool} (h : IsF w p B n cap cs st ar lf of) :
    Calls Try.prog 32 #[.pointer (some ⟨p, 0, none⟩)] w fun e w' => e = .returned (.int .i64 n) ∧ w' = w := by
  have k0 := h.c0
  clear h
  go_enter Try.func32, Try.ntmps32
  go_wp2_with fail
  go_ret
  exact ⟨rfl, rfl⟩

set_option maxHeartbeats 2000000 in
set_option maxRecDepth 100000 in
theorem sectors_nil (w : World) :
    Calls Try.prog 32 #[.pointer none] w fun e w' => e = .returned (.int .i64 0) ∧ w' = w := by
  go_enter Try.func32, Try.ntmps32
  go_wp2_with fail
  go_ret
  exact ⟨rfl, rfl⟩

set_option maxHeartbeats 2000000 in
set_option maxRecDepth 100000 in
theorem off_any {w : World} {p B n cap : Nat} {cs : List Int} {st : Int} {ar : Bool} {lf : Int} {of : Bool} (h : IsF w p B n cap cs st ar lf of) :
    Calls Try.prog 22 #[.pointer (some ⟨p, 0, none⟩)] w fun e w' => e = .returned (.bool of) ∧ w' = w := by
  have k0 := h.c4
  clear h
  go_enter Try.func22, Try.ntmps22
  go_wp2_with fail
  go_ret
  exact ⟨rfl, rfl⟩

set_option maxHeartbeats 2000000 in
set_option maxRecDepth 100000 in
theorem off_nil (w : World) :
    Calls Try.prog 22 #[.pointer none] w fun e w' => e = .returned (.bool false) ∧ w' = w := by
  go_enter Try.func22, Try.ntmps22
  go_wp2_with fail
  go_ret
  exact ⟨rfl, rfl⟩

/-- What is refused. -/
def refE (of : Bool) (n : Nat) (s d : Int) : Int := if of then 7 else if s < 0 ∨ (n : Int) ≤ s ∨ d < 0 ∨ 256 ≤ d then 50 else 0
theorem refE_off (n : Nat) (s d : Int) : refE true n s d = 7 := by simp [refE]
theorem refE_bad {of : Bool} (ho : of = false) (n : Nat) (s d : Int) (h : s < 0 ∨ (n : Int) ≤ s ∨ d < 0 ∨ 256 ≤ d) : refE of n s d = 50 := by unfold refE; rw [ho, if_neg (by decide), if_pos h]
theorem refE_ok {of : Bool} (ho : of = false) (n : Nat) (s d : Int) (h0 : 0 ≤ s) (h1 : s < n) (h2 : 0 ≤ d) (h3 : d < 256) : refE of n s d = 0 := by unfold refE; rw [ho, if_neg (by decide), if_neg (by omega)]

set_option maxHeartbeats 2000000 in
set_option maxRecDepth 100000 in
theorem refuses_any {w : World} {p B n cap : Nat} {cs : List Int} {st : Int} {ar : Bool} {lf : Int} {of : Bool} (h : IsF w p B n cap cs st ar lf of) (s d : Int) :
    Calls Try.prog 47 #[.pointer (some ⟨p, 0, none⟩), .int .i64 s, .int .i64 d] w fun e w' => e = .returned (.int .i64 (refE of n s d)) ∧ w' = w := by
  have k4 := h.c4
  have k0 := h.c0
  clear h
  cases of with
  | true =>
    rw [refE_off]
    go_enter Try.func47, Try.ntmps47
    go_wp2_with fail
    go_ret
    exact ⟨rfl, rfl⟩
  | false =>
    by_cases a : s < 0
    · rw [refE_bad rfl n s d (.inl a)]
      go_enter Try.func47, Try.ntmps47
      go_wp2_with fail
      go_ret
      exact ⟨rfl, rfl⟩
    by_cases b : (n : Int) ≤ s
    · rw [refE_bad rfl n s d (.inr (.inl b))]
      go_enter Try.func47, Try.ntmps47
      go_wp2_with fail
      go_ret
      exact ⟨rfl, rfl⟩
    by_cases c : d < 0
    · rw [refE_bad rfl n s d (.inr (.inr (.inl c)))]
      go_enter Try.func47, Try.ntmps47
      go_wp2_with fail
      go_ret
      exact ⟨rfl, rfl⟩
    by_cases c2 : 256 ≤ d
    · rw [refE_bad rfl n s d (.inr (.inr (.inr c2)))]
      go_enter Try.func47, Try.ntmps47
      go_wp2_with fail
      go_ret
      exact ⟨rfl, rfl⟩
    rw [refE_ok rfl n s d (by omega) (by omega) (by omega) (by omega)]
    go_enter Try.func47, Try.ntmps47
    go_wp2_with fail
    go_ret
    exact ⟨rfl, rfl⟩

set_option maxHeartbeats 2000000 in
set_option maxRecDepth 100000 in
theorem refuses_nil (w : World) (s d : Int) :
    Calls Try.prog 47 #[.pointer none, .int .i64 s, .int .i64 d] w fun e w' => e = .returned (.int .i64 1) ∧ w' = w := by
  go_enter Try.func47, Try.ntmps47
  go_wp2_with fail
  go_ret
  exact ⟨rfl, rfl⟩

set_option maxHeartbeats 2000000 in
set_option maxRecDepth 100000 in
theorem cut_any {w : World} {p B n cap : Nat} {cs : List Int} {st : Int} {ar : Bool} {lf : Int} {of : Bool} (h : IsF w p B n cap cs st ar lf of) (a : Int) :
    Calls Try.prog 21 #[.pointer (some ⟨p, 0, none⟩), .int .i64 a] w fun e w' => e = .returned (.tuple #[]) ∧ IsF w' p B n cap cs st (decide (0 ≤ a)) (max a 0) of ∧ Kp [p] w w' := by
  have k2 := h.c2
  have k3 := h.c3
  have f2 := h.fz 2
  have f3 := h.fz 3
  go_enter Try.func21, Try.ntmps21
  go_wp2_with fail
  go_end0
  exact ⟨rfl, (h.s2 _).s3 _, ((Kp.refl _ _).set _ _ (.inl (by simp))).set _ _ (.inl (by simp))⟩

set_option maxHeartbeats 2000000 in
set_option maxRecDepth 100000 in
theorem cut_nil (w : World) (a : Int) :
    Calls Try.prog 21 #[.pointer none, .int .i64 a] w fun e w' => e = .returned (.tuple #[]) ∧ w' = w := by
  go_enter Try.func21, Try.ntmps21
  go_wp2_with fail
  go_end0
  exact ⟨rfl, rfl⟩

set_option maxHeartbeats 2000000 in
set_option maxRecDepth 100000 in
theorem on_any {w : World} {p B n cap : Nat} {cs : List Int} {st : Int} {ar : Bool} {lf : Int} {of : Bool} (h : IsF w p B n cap cs st ar lf of) :
    Calls Try.prog 23 #[.pointer (some ⟨p, 0, none⟩)] w fun e w' => e = .returned (.tuple #[]) ∧ IsF w' p B n cap cs st false 0 false ∧ Kp [p] w w' := by
  have k4 := h.c4
  have f4 := h.fz 4
  have h4 := h.s4 false
  go_enter Try.func23, Try.ntmps23
  go_wp2_with fail
  refine (cut_any h4 (-1)).mono ?_
  rintro e w2 ⟨rfl, h5, hk⟩
  go_wp2_with fail
  go_end0
  exact ⟨rfl, h5, ((Kp.refl _ _).set _ _ (.inl (by simp))).trans hk⟩

set_option maxHeartbeats 2000000 in
set_option maxRecDepth 100000 in
theorem on_nil (w : World) :
    Calls Try.prog 23 #[.pointer none] w fun e w' => e = .returned (.tuple #[]) ∧ w' = w := by
  go_enter Try.func23, Try.ntmps23
  go_wp2_with fail
  go_end0
  exact ⟨rfl, rfl⟩
#print axioms on_any
#print axioms refuses_any
end Go.Proofs.Ytgpbmccjcjoijaa
