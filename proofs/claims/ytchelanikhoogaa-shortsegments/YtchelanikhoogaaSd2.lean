/-
  The walk of the writing of an end.
-/
import Derived.Test.YtchelanikhoogaaSd
namespace Go.Proofs.Ytchelanikhoogaa
open Go.RowKit

set_option linter.unusedSimpArgs false in
set_option maxHeartbeats 4000000 in
set_option maxRecDepth 100000 in
theorem writeEnd_any (f k i s : Int) (z : Bool) (n : Int) (q : Bool) (a : Option Addr) (len cap : Nat) (t l c : Bool) (b e u m o : Int) (hu : 0 ≤ u ∧ u < 65536) (w : World) :
    Calls Try.prog 49 #[arr8 f 0 0 0 0 0 0 0, cmV k i s z n q a len cap t l c b e u m o] w (WPost w (if onlyN i s z n q len t l c b e u m o 3072 && (decide (0 ≤ m) && decide (m ≤ 7)) then some ⟨bits .or .u8 f (m * 4), u % 256, u / 256, 0, 0, 0, 0, 0⟩ else none)) := by
  obtain ⟨R, hR⟩ : ∃ R, onlyN i s z n q len t l c b e u m o 3072 = R := ⟨_, rfl⟩
  cases R
  · rw [hR]
    have ho := fun w => only_no k i s z n q a len cap t l c b e u m o 3072 (by decide) 3072 rfl hR w
    clear hR
    go_enter Try.func49, Try.ntmps49
    go_wp2_with fail
    with_reducible refine (ho _).mono ?_
    rintro r w1 ⟨rfl, o1, o2, o3, rfl⟩
    clear ho
    go_wp2_with fail
    exact ⟨rfl, rfl, (by repeat (first | exact Below.refl _ _ | apply Below.drew | apply Below.al))⟩
  have ho := fun w => only_yes k i s z n q a len cap t l c b e u m o 3072 (by decide) 3072 rfl hR w
  rw [hR]
  clear hR
  have e1 : IntKind.u8.wrap u = u % 256 := wrap8 u
  have e2 : IntKind.u8.wrap (u / 256) = u / 256 := by rw [wrap8]; omega
  by_cases h1 : m < 0
  · rw [decide_eq_false (show ¬ 0 ≤ m by omega)]
    go_enter Try.func49, Try.ntmps49
    go_wp2_with fail
    with_reducible refine (ho _).mono ?_
    rintro r w1 ⟨rfl, o1, o2, o3, rfl⟩
    clear ho
    go_wp2_with fail
    with_reducible refine (must_false _).mono ?_
    rintro r w1 ⟨rfl, rfl⟩
    go_wp2_with fail
    exact ⟨rfl, rfl, (by repeat (first | exact Below.refl _ _ | apply Below.drew | apply Below.al))⟩
  by_cases h2 : 7 < m
  · have hx : decide (m ≤ 7) = false := decide_eq_false (by omega)
    rw [decide_eq_false (show ¬ m ≤ 7 by omega), decide_eq_true (show 0 ≤ m by omega)]
    go_enter Try.func49, Try.ntmps49
    go_wp2_with fail
    with_reducible refine (ho _).mono ?_
    rintro r w1 ⟨rfl, o1, o2, o3, rfl⟩
    clear ho
    go_wp2_with fail
    with_reducible refine (must_false _).mono ?_
    rintro r w1 ⟨rfl, rfl⟩
    go_wp2_with fail
    exact ⟨rfl, rfl, (by repeat (first | exact Below.refl _ _ | apply Below.drew | apply Below.al))⟩
  · rw [decide_eq_true (show m ≤ 7 by omega), decide_eq_true (show 0 ≤ m by omega)]
    have e3 : IntKind.u8.wrap m = m := by rw [wrap8]; omega
    have e4 : IntKind.u8.wrap (m * 4) = m * 4 := by rw [wrap8]; omega
    go_enter Try.func49, Try.ntmps49
    go_wp2_with fail
    with_reducible refine (ho _).mono ?_
    rintro r w1 ⟨rfl, o1, o2, o3, rfl⟩
    clear ho
    go_wp2_with fail
    with_reducible refine (must_true _).mono ?_
    rintro r w1 ⟨rfl, rfl⟩
    go_wp2_with fail
    go_region
    all_goals
      go_wp2_with fail
      exact bodyPost_ret (v := arr8 (bits .or .u8 f (m * 4)) (u % 256) (u / 256) 0 0 0 0 0) (by simp [results, Try.results49, go_sem]) rfl ⟨rfl, (by repeat (first | exact Below.refl _ _ | apply Below.drew | apply Below.al))⟩

#print axioms writeEnd_any
end Go.Proofs.Ytchelanikhoogaa
