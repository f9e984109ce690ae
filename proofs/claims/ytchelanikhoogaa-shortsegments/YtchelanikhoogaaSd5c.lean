/-
  The walk of the writing of a size.
-/
import Derived.Test.YtchelanikhoogaaSd5
import Derived.Test.YtchelanikhoogaaSd5b
namespace Go.Proofs.Ytchelanikhoogaa
open Go.RowKit

set_option linter.unusedSimpArgs false in
set_option maxHeartbeats 4000000 in
set_option maxRecDepth 100000 in
theorem writeSize_any (f k i s : Int) (z : Bool) (n : Int) (q : Bool) (a : Option Addr) (len cap : Nat) (t l c : Bool) (b e u m o : Int) (hi : 0 ≤ i ∧ i < 65536) (hn : 0 ≤ n ∧ n < 4294967296) (w : World) :
    Calls Try.prog 47 #[arr8 f 0 0 0 0 0 0 0, cmV k i s z n q a len cap t l c b e u m o] w (WPost w (if onlyN i s z n q len t l c b e u m o 135 && (z || n == 0) then some ⟨bits .or .u8 f (bits .or .u8 (bitv c 4) (bitv z 2)), i % 256, i / 256, s, n % 256, n / 256 % 256, n / 65536 % 256, n / 16777216⟩ else none)) := by
  obtain ⟨R, hR⟩ : ∃ R, onlyN i s z n q len t l c b e u m o 135 = R := ⟨_, rfl⟩
  cases R
  · rw [hR]
    have ho := fun w => only_no k i s z n q a len cap t l c b e u m o 135 (by decide) 135 rfl hR w
    clear hR
    go_enter Try.func47, Try.ntmps47
    go_wp2_with fail
    with_reducible refine (ho _).mono ?_
    rintro r w1 ⟨rfl, o1, o2, o3, rfl⟩
    clear ho
    go_wp2_with fail
    exact ⟨rfl, rfl, (by repeat (first | exact Below.refl _ _ | apply Below.drew | apply Below.al))⟩
  cases z
  · by_cases h1 : n = 0
    · exact writeSize_f f k i s false n q a len cap t l c b e u m o hi hn rfl h1 hR w
    · have h1' : (n == 0) = false := by simpa using h1
      have ho := fun w => only_yes k i s false n q a len cap t l c b e u m o 135 (by decide) 135 rfl hR w
      rw [hR, h1']
      clear hR
      go_enter Try.func47, Try.ntmps47
      go_wp2_with fail
      with_reducible refine (ho _).mono ?_
      rintro r w1 ⟨rfl, o1, o2, o3, rfl⟩
      clear ho
      go_wp2_with fail
      with_reducible refine (must_false _).mono ?_
      rintro r w1 ⟨rfl, rfl⟩
      go_wp2_with fail
      exact ⟨rfl, rfl, (by repeat (first | exact Below.refl _ _ | apply Below.drew | apply Below.al))⟩
  · exact writeSize_t f k i s true n q a len cap t l c b e u m o hi hn rfl hR w

#print axioms writeSize_any
end Go.Proofs.Ytchelanikhoogaa
