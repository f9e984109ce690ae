/-
  The walk of the writing of a stop.
  The walk of the writing of an end.
  The walk of the writing of a block.
  The walk of the writing of an ack.
-/
import Derived.Test.YtimnpdegoehblaaGreatDoorSd
namespace Go.Proofs.YtimnpdegoehblaaGreatDoor
open Go.RowKit

set_option linter.unusedSimpArgs false in
set_option maxHeartbeats 4000000 in
set_option maxRecDepth 100000 in
theorem writeStop_any (f k i s : Int) (z : Bool) (n : Int) (q : Bool) (a : Option Addr) (len cap : Nat) (t l c : Bool) (b e u m o : Int) (hi : 0 ≤ i ∧ i < 65536) (hO : 0 ≤ o ∧ o < 4294967296) (w : World) :
    Calls Tryz.prog 68 #[arr8 f 0 0 0 0 0 0 0, cmV k i s z n q a len cap t l c b e u m o] w (WPost w (if onlyN i s z n q len t l c b e u m o 4097 then some ⟨f, i % 256, i / 256, s, o % 256, o / 256 % 256, o / 65536 % 256, o / 16777216⟩ else none)) := by
  obtain ⟨R, hR⟩ : ∃ R, onlyN i s z n q len t l c b e u m o 4097 = R := ⟨_, rfl⟩
  cases R
  · rw [hR]
    have ho := fun w => only_no k i s z n q a len cap t l c b e u m o 4097 (by decide) 4097 rfl hR w
    clear hR
    go_enter Tryz.func68, Tryz.ntmps68
    go_wp2_with fail
    with_reducible refine (ho _).mono ?_
    rintro r w1 ⟨rfl, o1, o2, o3, rfl⟩
    clear ho
    go_wp2_with fail
    exact ⟨rfl, rfl, (by repeat (first | exact Below.refl _ _ | apply Below.drew | apply Below.al))⟩
  have ho := fun w => only_yes k i s z n q a len cap t l c b e u m o 4097 (by decide) 4097 rfl hR w
  rw [hR]
  clear hR
  · go_enter Tryz.func68, Tryz.ntmps68
    go_wp2_with fail
    with_reducible refine (ho _).mono ?_
    rintro r w1 ⟨rfl, o1, o2, o3, rfl⟩
    clear ho
    go_wp2_with fail
    go_region_with (first | (go_at_call 102; with_reducible refine (withPlace_any _ _ _ _ _ _ _ _ _ _ hi _).mono ?_; rintro r w1 ⟨rfl, p1, p2, p3, rfl⟩) | (go_at_call 101; with_reducible refine (withNumber_any _ _ _ _ _ _ _ _ _ hO _).mono ?_; rintro r w1 ⟨rfl, q1, q2, rfl⟩))
    all_goals
      go_wp2_with fail
      exact bodyPost_ret (v := arr8 f (i % 256) (i / 256) s (o % 256) (o / 256 % 256) (o / 65536 % 256) (o / 16777216)) (by simp [results, Tryz.results68, go_sem]) rfl ⟨rfl, (by repeat (first | exact Below.refl _ _ | apply Below.drew | apply Below.al))⟩

#print axioms writeStop_any
end Go.Proofs.YtimnpdegoehblaaGreatDoor
namespace Go.Proofs.YtimnpdegoehblaaGreatDoor
open Go.RowKit

set_option linter.unusedSimpArgs false in
set_option maxHeartbeats 4000000 in
set_option maxRecDepth 100000 in
theorem writeEnd_any (f k i s : Int) (z : Bool) (n : Int) (q : Bool) (a : Option Addr) (len cap : Nat) (t l c : Bool) (b e u m o : Int) (hu : 0 ≤ u ∧ u < 65536) (w : World) :
    Calls Tryz.prog 72 #[arr8 f 0 0 0 0 0 0 0, cmV k i s z n q a len cap t l c b e u m o] w (WPost w (if onlyN i s z n q len t l c b e u m o 3072 && (decide (0 ≤ m) && decide (m ≤ 7)) then some ⟨bits .or .u8 f (m * 4), u % 256, u / 256, 0, 0, 0, 0, 0⟩ else none)) := by
  obtain ⟨R, hR⟩ : ∃ R, onlyN i s z n q len t l c b e u m o 3072 = R := ⟨_, rfl⟩
  cases R
  · rw [hR]
    have ho := fun w => only_no k i s z n q a len cap t l c b e u m o 3072 (by decide) 3072 rfl hR w
    clear hR
    go_enter Tryz.func72, Tryz.ntmps72
    go_wp2_with fail
    with_reducible refine (ho _).mono ?_
    rintro r w1 ⟨rfl, o1, o2, o3, rfl⟩
    clear ho
    go_wp2_with fail
    exact ⟨rfl, rfl, (by repeat (first | exact Below.refl _ _ | apply Below.drew | apply Below.al))⟩
  have ho := fun w => only_yes k i s z n q a len cap t l c b e u m o 3072 (by decide) 3072 rfl hR w
  rw [hR]
  clear hR
  have e1 : IntKind.u8.wrap u = u % 256 := wrap8 u
  have e2 : IntKind.u8.wrap (u / 256) = u / 256 := by rw [wrap8]; omega
  by_cases h1 : m < 0
  · rw [decide_eq_false (show ¬ 0 ≤ m by omega)]
    go_enter Tryz.func72, Tryz.ntmps72
    go_wp2_with fail
    with_reducible refine (ho _).mono ?_
    rintro r w1 ⟨rfl, o1, o2, o3, rfl⟩
    clear ho
    go_wp2_with fail
    with_reducible refine (must_false _).mono ?_
    rintro r w1 ⟨rfl, rfl⟩
    go_wp2_with fail
    exact ⟨rfl, rfl, (by repeat (first | exact Below.refl _ _ | apply Below.drew | apply Below.al))⟩
  by_cases h2 : 7 < m
  · have hx : decide (m ≤ 7) = false := decide_eq_false (by omega)
    rw [decide_eq_false (show ¬ m ≤ 7 by omega), decide_eq_true (show 0 ≤ m by omega)]
    go_enter Tryz.func72, Tryz.ntmps72
    go_wp2_with fail
    with_reducible refine (ho _).mono ?_
    rintro r w1 ⟨rfl, o1, o2, o3, rfl⟩
    clear ho
    go_wp2_with fail
    with_reducible refine (must_false _).mono ?_
    rintro r w1 ⟨rfl, rfl⟩
    go_wp2_with fail
    exact ⟨rfl, rfl, (by repeat (first | exact Below.refl _ _ | apply Below.drew | apply Below.al))⟩
  · rw [decide_eq_true (show m ≤ 7 by omega), decide_eq_true (show 0 ≤ m by omega)]
    have e3 : IntKind.u8.wrap m = m := by rw [wrap8]; omega
    have e4 : IntKind.u8.wrap (m * 4) = m * 4 := by rw [wrap8]; omega
    go_enter Tryz.func72, Tryz.ntmps72
    go_wp2_with fail
    with_reducible refine (ho _).mono ?_
    rintro r w1 ⟨rfl, o1, o2, o3, rfl⟩
    clear ho
    go_wp2_with fail
    with_reducible refine (must_true _).mono ?_
    rintro r w1 ⟨rfl, rfl⟩
    go_wp2_with fail
    go_region
    all_goals
      go_wp2_with fail
      exact bodyPost_ret (v := arr8 (bits .or .u8 f (m * 4)) (u % 256) (u / 256) 0 0 0 0 0) (by simp [results, Tryz.results72, go_sem]) rfl ⟨rfl, (by repeat (first | exact Below.refl _ _ | apply Below.drew | apply Below.al))⟩

#print axioms writeEnd_any
end Go.Proofs.YtimnpdegoehblaaGreatDoor
namespace Go.Proofs.YtimnpdegoehblaaGreatDoor
open Go.RowKit

set_option linter.unusedSimpArgs false in
set_option maxHeartbeats 4000000 in
set_option maxRecDepth 100000 in
theorem writeBlock_any (f k i s : Int) (z : Bool) (n : Int) (q : Bool) (a : Option Addr) (len cap : Nat) (t l c : Bool) (b e u m o : Int) (hi : 0 ≤ i ∧ i < 65536) (w : World) :
    Calls Tryz.prog 74 #[arr8 f 0 0 0 0 0 0 0, cmV k i s z n q a len cap t l c b e u m o] w (WPost w (if onlyN i s z n q len t l c b e u m o 385 && (decide (1 ≤ b) && decide (b ≤ 127)) then some ⟨bits .or .u8 f (bitv c 4), i % 256, i / 256, s, b, 0, 0, 0⟩ else none)) := by
  obtain ⟨R, hR⟩ : ∃ R, onlyN i s z n q len t l c b e u m o 385 = R := ⟨_, rfl⟩
  cases R
  · rw [hR]
    have ho := fun w => only_no k i s z n q a len cap t l c b e u m o 385 (by decide) 385 rfl hR w
    clear hR
    go_enter Tryz.func74, Tryz.ntmps74
    go_wp2_with fail
    with_reducible refine (ho _).mono ?_
    rintro r w1 ⟨rfl, o1, o2, o3, rfl⟩
    clear ho
    go_wp2_with fail
    exact ⟨rfl, rfl, (by repeat (first | exact Below.refl _ _ | apply Below.drew | apply Below.al))⟩
  have ho := fun w => only_yes k i s z n q a len cap t l c b e u m o 385 (by decide) 385 rfl hR w
  rw [hR]
  clear hR
  by_cases h1 : b < 1
  · rw [decide_eq_false (show ¬ 1 ≤ b by omega)]
    go_enter Tryz.func74, Tryz.ntmps74
    go_wp2_with fail
    with_reducible refine (ho _).mono ?_
    rintro r w1 ⟨rfl, o1, o2, o3, rfl⟩
    clear ho
    go_wp2_with fail
    with_reducible refine (must_false _).mono ?_
    rintro r w1 ⟨rfl, rfl⟩
    go_wp2_with fail
    exact ⟨rfl, rfl, (by repeat (first | exact Below.refl _ _ | apply Below.drew | apply Below.al))⟩
  by_cases h2 : 127 < b
  · have hx : decide (b ≤ 127) = false := decide_eq_false (by omega)
    rw [decide_eq_false (show ¬ b ≤ 127 by omega), decide_eq_true (show 1 ≤ b by omega)]
    go_enter Tryz.func74, Tryz.ntmps74
    go_wp2_with fail
    with_reducible refine (ho _).mono ?_
    rintro r w1 ⟨rfl, o1, o2, o3, rfl⟩
    clear ho
    go_wp2_with fail
    with_reducible refine (must_false _).mono ?_
    rintro r w1 ⟨rfl, rfl⟩
    go_wp2_with fail
    exact ⟨rfl, rfl, (by repeat (first | exact Below.refl _ _ | apply Below.drew | apply Below.al))⟩
  · rw [decide_eq_true (show b ≤ 127 by omega), decide_eq_true (show 1 ≤ b by omega)]
    have e3 : IntKind.u8.wrap b = b := by rw [wrap8]; omega
    go_enter Tryz.func74, Tryz.ntmps74
    go_wp2_with fail
    with_reducible refine (ho _).mono ?_
    rintro r w1 ⟨rfl, o1, o2, o3, rfl⟩
    clear ho
    go_wp2_with fail
    with_reducible refine (must_true _).mono ?_
    rintro r w1 ⟨rfl, rfl⟩
    go_wp2_with fail
    go_region_with (go_at_call 100; refine (bit_any _ _ _).mono ?_; rintro r w1 ⟨rfl, rfl⟩)
    all_goals
      go_wp2_with fail
      with_reducible refine (withPlace_any _ _ _ _ _ _ _ _ _ _ hi _).mono ?_
      rintro r w1 ⟨rfl, p1, p2, p3, rfl⟩
      go_wp2_with fail
      exact bodyPost_ret (v := arr8 (bits .or .u8 f (bitv c 4)) (i % 256) (i / 256) s b 0 0 0) (by simp [results, Tryz.results74, go_sem]) rfl ⟨rfl, (by repeat (first | exact Below.refl _ _ | apply Below.drew | apply Below.al))⟩

#print axioms writeBlock_any
end Go.Proofs.YtimnpdegoehblaaGreatDoor
namespace Go.Proofs.YtimnpdegoehblaaGreatDoor
open Go.RowKit

set_option linter.unusedSimpArgs false in
set_option maxHeartbeats 4000000 in
set_option maxRecDepth 100000 in
theorem writeAck_any (f k i s : Int) (z : Bool) (n : Int) (q : Bool) (a : Option Addr) (len cap : Nat) (t l c : Bool) (b e u m o : Int) (w : World) :
    Calls Tryz.prog 78 #[arr8 f 0 0 0 0 0 0 0, cmV k i s z n q a len cap t l c b e u m o] w (WPost w (if onlyN i s z n q len t l c b e u m o 768 && ((decide (0 ≤ e) && decide (e ≤ 127)) && (decide (1 ≤ b) && decide (b ≤ 127))) then some ⟨f, e, b, 0, 0, 0, 0, 0⟩ else none)) := by
  obtain ⟨R, hR⟩ : ∃ R, onlyN i s z n q len t l c b e u m o 768 = R := ⟨_, rfl⟩
  cases R
  · rw [hR]
    have ho := fun w => only_no k i s z n q a len cap t l c b e u m o 768 (by decide) 768 rfl hR w
    clear hR
    go_enter Tryz.func78, Tryz.ntmps78
    go_wp2_with fail
    with_reducible refine (ho _).mono ?_
    rintro r w1 ⟨rfl, o1, o2, o3, rfl⟩
    clear ho
    go_wp2_with fail
    exact ⟨rfl, rfl, (by repeat (first | exact Below.refl _ _ | apply Below.drew | apply Below.al))⟩
  have ho := fun w => only_yes k i s z n q a len cap t l c b e u m o 768 (by decide) 768 rfl hR w
  rw [hR]
  clear hR
  by_cases h1 : e < 0
  · rw [decide_eq_false (show ¬ 0 ≤ e by omega)]
    go_enter Tryz.func78, Tryz.ntmps78
    go_wp2_with fail
    with_reducible refine (ho _).mono ?_
    rintro r w1 ⟨rfl, o1, o2, o3, rfl⟩
    clear ho
    go_wp2_with fail
    with_reducible refine (must_false _).mono ?_
    rintro r w1 ⟨rfl, rfl⟩
    go_wp2_with fail
    exact ⟨rfl, rfl, (by repeat (first | exact Below.refl _ _ | apply Below.drew | apply Below.al))⟩
  by_cases h2 : 127 < e
  · have hx : decide (e ≤ 127) = false := decide_eq_false (by omega)
    rw [decide_eq_false (show ¬ e ≤ 127 by omega), decide_eq_true (show 0 ≤ e by omega)]
    go_enter Tryz.func78, Tryz.ntmps78
    go_wp2_with fail
    with_reducible refine (ho _).mono ?_
    rintro r w1 ⟨rfl, o1, o2, o3, rfl⟩
    clear ho
    go_wp2_with fail
    with_reducible refine (must_false _).mono ?_
    rintro r w1 ⟨rfl, rfl⟩
    go_wp2_with fail
    exact ⟨rfl, rfl, (by repeat (first | exact Below.refl _ _ | apply Below.drew | apply Below.al))⟩
  rw [decide_eq_true (show e ≤ 127 by omega), decide_eq_true (show 0 ≤ e by omega)]
  by_cases h3 : b < 1
  · rw [decide_eq_false (show ¬ 1 ≤ b by omega)]
    go_enter Tryz.func78, Tryz.ntmps78
    go_wp2_with fail
    with_reducible refine (ho _).mono ?_
    rintro r w1 ⟨rfl, o1, o2, o3, rfl⟩
    clear ho
    go_wp2_with fail
    with_reducible refine (must_true _).mono ?_
    rintro r w1 ⟨rfl, rfl⟩
    go_wp2_with fail
    with_reducible refine (must_false _).mono ?_
    rintro r w1 ⟨rfl, rfl⟩
    go_wp2_with fail
    exact ⟨rfl, rfl, (by repeat (first | exact Below.refl _ _ | apply Below.drew | apply Below.al))⟩
  by_cases h4 : 127 < b
  · have hx : decide (b ≤ 127) = false := decide_eq_false (by omega)
    rw [decide_eq_false (show ¬ b ≤ 127 by omega), decide_eq_true (show 1 ≤ b by omega)]
    go_enter Tryz.func78, Tryz.ntmps78
    go_wp2_with fail
    with_reducible refine (ho _).mono ?_
    rintro r w1 ⟨rfl, o1, o2, o3, rfl⟩
    clear ho
    go_wp2_with fail
    with_reducible refine (must_true _).mono ?_
    rintro r w1 ⟨rfl, rfl⟩
    go_wp2_with fail
    with_reducible refine (must_false _).mono ?_
    rintro r w1 ⟨rfl, rfl⟩
    go_wp2_with fail
    exact ⟨rfl, rfl, (by repeat (first | exact Below.refl _ _ | apply Below.drew | apply Below.al))⟩
  · rw [decide_eq_true (show b ≤ 127 by omega), decide_eq_true (show 1 ≤ b by omega)]
    have e3 : IntKind.u8.wrap b = b := by rw [wrap8]; omega
    have e4 : IntKind.u8.wrap e = e := by rw [wrap8]; omega
    go_enter Tryz.func78, Tryz.ntmps78
    go_wp2_with fail
    with_reducible refine (ho _).mono ?_
    rintro r w1 ⟨rfl, o1, o2, o3, rfl⟩
    clear ho
    go_wp2_with fail
    with_reducible refine (must_true _).mono ?_
    rintro r w1 ⟨rfl, rfl⟩
    go_wp2_with fail
    with_reducible refine (must_true _).mono ?_
    rintro r w1 ⟨rfl, rfl⟩
    go_wp2_with fail
    go_region
    all_goals
      go_wp2_with fail
      exact bodyPost_ret (v := arr8 f e b 0 0 0 0 0) (by simp [results, Tryz.results78, go_sem]) rfl ⟨rfl, (by repeat (first | exact Below.refl _ _ | apply Below.drew | apply Below.al))⟩

#print axioms writeAck_any
end Go.Proofs.YtimnpdegoehblaaGreatDoor
