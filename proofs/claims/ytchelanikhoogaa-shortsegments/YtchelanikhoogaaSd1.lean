/-
  The walk of the writing of a stop.
-/
import Derived.Test.YtchelanikhoogaaSd
namespace Go.Proofs.Ytchelanikhoogaa
open Go.RowKit

set_option linter.unusedSimpArgs false in
set_option maxHeartbeats 4000000 in
set_option maxRecDepth 100000 in
theorem writeStop_any (f k i s : Int) (z : Bool) (n : Int) (q : Bool) (a : Option Addr) (len cap : Nat) (t l c : Bool) (b e u m o : Int) (hi : 0 ≤ i ∧ i < 65536) (hO : 0 ≤ o ∧ o < 4294967296) (w : World) :
    Calls Try.prog 45 #[arr8 f 0 0 0 0 0 0 0, cmV k i s z n q a len cap t l c b e u m o] w (WPost w (if onlyN i s z n q len t l c b e u m o 4097 then some ⟨f, i % 256, i / 256, s, o % 256, o / 256 % 256, o / 65536 % 256, o / 16777216⟩ else none)) := by
  obtain ⟨R, hR⟩ : ∃ R, onlyN i s z n q len t l c b e u m o 4097 = R := ⟨_, rfl⟩
  cases R
  · rw [hR]
    have ho := fun w => only_no k i s z n q a len cap t l c b e u m o 4097 (by decide) 4097 rfl hR w
    clear hR
    go_enter Try.func45, Try.ntmps45
    go_wp2_with fail
    with_reducible refine (ho _).mono ?_
    rintro r w1 ⟨rfl, o1, o2, o3, rfl⟩
    clear ho
    go_wp2_with fail
    exact ⟨rfl, rfl, (by repeat (first | exact Below.refl _ _ | apply Below.drew | apply Below.al))⟩
  have ho := fun w => only_yes k i s z n q a len cap t l c b e u m o 4097 (by decide) 4097 rfl hR w
  rw [hR]
  clear hR
  · go_enter Try.func45, Try.ntmps45
    go_wp2_with fail
    with_reducible refine (ho _).mono ?_
    rintro r w1 ⟨rfl, o1, o2, o3, rfl⟩
    clear ho
    go_wp2_with fail
    go_region_with (first | (go_at_call 71; with_reducible refine (withPlace_any _ _ _ _ _ _ _ _ _ _ hi _).mono ?_; rintro r w1 ⟨rfl, p1, p2, p3, rfl⟩) | (go_at_call 70; with_reducible refine (withNumber_any _ _ _ _ _ _ _ _ _ hO _).mono ?_; rintro r w1 ⟨rfl, q1, q2, rfl⟩))
    all_goals
      go_wp2_with fail
      exact bodyPost_ret (v := arr8 f (i % 256) (i / 256) s (o % 256) (o / 256 % 256) (o / 65536 % 256) (o / 16777216)) (by simp [results, Try.results45, go_sem]) rfl ⟨rfl, (by repeat (first | exact Below.refl _ _ | apply Below.drew | apply Below.al))⟩

#print axioms writeStop_any
end Go.Proofs.Ytchelanikhoogaa
