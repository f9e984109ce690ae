/-
  The walk of the writing of an ack.
-/
import Derived.Test.YtchelanikhoogaaSd
namespace Go.Proofs.Ytchelanikhoogaa
open Go.RowKit

set_option linter.unusedSimpArgs false in
set_option maxHeartbeats 4000000 in
set_option maxRecDepth 100000 in
theorem writeAck_any (f k i s : Int) (z : Bool) (n : Int) (q : Bool) (a : Option Addr) (len cap : Nat) (t l c : Bool) (b e u m o : Int) (w : World) :
    Calls Try.prog 55 #[arr8 f 0 0 0 0 0 0 0, cmV k i s z n q a len cap t l c b e u m o] w (WPost w (if onlyN i s z n q len t l c b e u m o 768 && ((decide (0 ≤ e) && decide (e ≤ 127)) && (decide (1 ≤ b) && decide (b ≤ 127))) then some ⟨f, e, b, 0, 0, 0, 0, 0⟩ else none)) := by
  obtain ⟨R, hR⟩ : ∃ R, onlyN i s z n q len t l c b e u m o 768 = R := ⟨_, rfl⟩
  cases R
  · rw [hR]
    have ho := fun w => only_no k i s z n q a len cap t l c b e u m o 768 (by decide) 768 rfl hR w
    clear hR
    go_enter Try.func55, Try.ntmps55
    go_wp2_with fail
    with_reducible refine (ho _).mono ?_
    rintro r w1 ⟨rfl, o1, o2, o3, rfl⟩
    clear ho
    go_wp2_with fail
    exact ⟨rfl, rfl, (by repeat (first | exact Below.refl _ _ | apply Below.drew | apply Below.al))⟩
  have ho := fun w => only_yes k i s z n q a len cap t l c b e u m o 768 (by decide) 768 rfl hR w
  rw [hR]
  clear hR
  by_cases h1 : e < 0
  · rw [decide_eq_false (show ¬ 0 ≤ e by omega)]
    go_enter Try.func55, Try.ntmps55
    go_wp2_with fail
    with_reducible refine (ho _).mono ?_
    rintro r w1 ⟨rfl, o1, o2, o3, rfl⟩
    clear ho
    go_wp2_with fail
    with_reducible refine (must_false _).mono ?_
    rintro r w1 ⟨rfl, rfl⟩
    go_wp2_with fail
    exact ⟨rfl, rfl, (by repeat (first | exact Below.refl _ _ | apply Below.drew | apply Below.al))⟩
  by_cases h2 : 127 < e
  · have hx : decide (e ≤ 127) = false := decide_eq_false (by omega)
    rw [decide_eq_false (show ¬ e ≤ 127 by omega), decide_eq_true (show 0 ≤ e by omega)]
    go_enter Try.func55, Try.ntmps55
    go_wp2_with fail
    with_reducible refine (ho _).mono ?_
    rintro r w1 ⟨rfl, o1, o2, o3, rfl⟩
    clear ho
    go_wp2_with fail
    with_reducible refine (must_false _).mono ?_
    rintro r w1 ⟨rfl, rfl⟩
    go_wp2_with fail
    exact ⟨rfl, rfl, (by repeat (first | exact Below.refl _ _ | apply Below.drew | apply Below.al))⟩
  rw [decide_eq_true (show e ≤ 127 by omega), decide_eq_true (show 0 ≤ e by omega)]
  by_cases h3 : b < 1
  · rw [decide_eq_false (show ¬ 1 ≤ b by omega)]
    go_enter Try.func55, Try.ntmps55
    go_wp2_with fail
    with_reducible refine (ho _).mono ?_
    rintro r w1 ⟨rfl, o1, o2, o3, rfl⟩
    clear ho
    go_wp2_with fail
    with_reducible refine (must_true _).mono ?_
    rintro r w1 ⟨rfl, rfl⟩
    go_wp2_with fail
    with_reducible refine (must_false _).mono ?_
    rintro r w1 ⟨rfl, rfl⟩
    go_wp2_with fail
    exact ⟨rfl, rfl, (by repeat (first | exact Below.refl _ _ | apply Below.drew | apply Below.al))⟩
  by_cases h4 : 127 < b
  · have hx : decide (b ≤ 127) = false := decide_eq_false (by omega)
    rw [decide_eq_false (show ¬ b ≤ 127 by omega), decide_eq_true (show 1 ≤ b by omega)]
    go_enter Try.func55, Try.ntmps55
    go_wp2_with fail
    with_reducible refine (ho _).mono ?_
    rintro r w1 ⟨rfl, o1, o2, o3, rfl⟩
    clear ho
    go_wp2_with fail
    with_reducible refine (must_true _).mono ?_
    rintro r w1 ⟨rfl, rfl⟩
    go_wp2_with fail
    with_reducible refine (must_false _).mono ?_
    rintro r w1 ⟨rfl, rfl⟩
    go_wp2_with fail
    exact ⟨rfl, rfl, (by repeat (first | exact Below.refl _ _ | apply Below.drew | apply Below.al))⟩
  · rw [decide_eq_true (show b ≤ 127 by omega), decide_eq_true (show 1 ≤ b by omega)]
    have e3 : IntKind.u8.wrap b = b := by rw [wrap8]; omega
    have e4 : IntKind.u8.wrap e = e := by rw [wrap8]; omega
    go_enter Try.func55, Try.ntmps55
    go_wp2_with fail
    with_reducible refine (ho _).mono ?_
    rintro r w1 ⟨rfl, o1, o2, o3, rfl⟩
    clear ho
    go_wp2_with fail
    with_reducible refine (must_true _).mono ?_
    rintro r w1 ⟨rfl, rfl⟩
    go_wp2_with fail
    with_reducible refine (must_true _).mono ?_
    rintro r w1 ⟨rfl, rfl⟩
    go_wp2_with fail
    go_region
    all_goals
      go_wp2_with fail
      exact bodyPost_ret (v := arr8 f e b 0 0 0 0 0) (by simp [results, Try.results55, go_sem]) rfl ⟨rfl, (by repeat (first | exact Below.refl _ _ | apply Below.drew | apply Below.al))⟩

#print axioms writeAck_any
end Go.Proofs.Ytchelanikhoogaa
