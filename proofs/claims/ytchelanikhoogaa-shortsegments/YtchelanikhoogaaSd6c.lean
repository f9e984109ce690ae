/-
  The walk of the writing of a few bytes.
-/
import Derived.Test.YtchelanikhoogaaSd6
import Derived.Test.YtchelanikhoogaaSd6b
namespace Go.Proofs.Ytchelanikhoogaa
open Go.RowKit

/-- May a quick one have so many bytes? -/
def quickOk (z : Bool) (len : Nat) : Bool := len == 4 || (z && (decide (1 ≤ len) && decide (len < 4)))
/-- Its first byte. -/
def q0 (f : Int) (z : Bool) (len : Nat) : Int := bits .or .u8 f (bits .or .u8 (bits .or .u8 2 (bitv z 1)) ((4 - (len : Int)) * 4))

set_option linter.unusedSimpArgs false in
set_option maxHeartbeats 4000000 in
set_option maxRecDepth 100000 in
theorem writeQuick_any (f k i s : Int) (z : Bool) (n : Int) (q : Bool) (a : Option Addr) (len cap : Nat) (t l c : Bool) (b e u m o : Int) (hi : 0 ≤ i ∧ i < 65536) (zs : List Int) (w : World) (hr : Row w a len zs) :
    Calls Try.prog 67 #[arr8 f 0 0 0 0 0 0 0, cmV k i s z n q a len cap t l c b e u m o] w (WPost w (if onlyN i s z n q len t l c b e u m o 27 && quickOk z len then some ⟨q0 f z len, i % 256, i / 256, s, zb zs 0, zb zs 1, zb zs 2, zb zs 3⟩ else none)) := by
  obtain ⟨R, hR⟩ : ∃ R, onlyN i s z n q len t l c b e u m o 27 = R := ⟨_, rfl⟩
  cases R
  · rw [hR]
    have ho := fun w => only_no k i s z n q a len cap t l c b e u m o 27 (by decide) 27 rfl hR w
    clear hR hr
    go_enter Try.func67, Try.ntmps67
    go_wp2_with fail
    with_reducible refine (ho _).mono ?_
    rintro r w1 ⟨rfl, o1, o2, o3, rfl⟩
    clear ho
    go_wp2_with fail
    exact ⟨rfl, rfl, (by repeat (first | exact Below.refl _ _ | apply Below.drew | apply Below.al))⟩
  have ho := fun w => only_yes k i s z n q a len cap t l c b e u m o 27 (by decide) 27 rfl hR w
  by_cases h4 : len = 4
  · subst h4
    have hqk : quickOk z 4 = true := by simp [quickOk]
    have hq0 : ∀ y, q0 f y 4 = bits .or .u8 f (bits .or .u8 (bits .or .u8 2 (bitv y 1)) 0) := fun y => by unfold q0; rw [show ((4 : Int) - ((4 : Nat) : Int)) * 4 = 0 from rfl]
    rw [hR, hqk, hq0]
    simp only [Bool.and_self, if_true]
    cases z
    · exact writeQuick_b f k i s n q a cap t l c b e u m o hi zs w hr hR
    · exact writeQuick_c f k i s n q a cap t l c b e u m o hi zs w hr hR
  have m4 : ((len : Int) == 4) = false := by simp; omega
  cases z
  · have hqk : quickOk false len = false := by simp [quickOk, h4]
    rw [hR, hqk]
    clear hR hqk hr
    go_enter Try.func67, Try.ntmps67
    go_wp2_with fail
    with_reducible refine (ho _).mono ?_
    rintro r w1 ⟨rfl, o1, o2, o3, rfl⟩
    clear ho
    go_wp2_with fail
    with_reducible refine (must_false _).mono ?_
    rintro r w1 ⟨rfl, rfl⟩
    go_wp2_with fail
    exact ⟨rfl, rfl, (by repeat (first | exact Below.refl _ _ | apply Below.drew | apply Below.al))⟩
  by_cases h1 : 1 ≤ len ∧ len ≤ 3
  · have hqk : quickOk true len = true := by simp [quickOk]; omega
    rw [hR, hqk]
    simp only [Bool.and_self, if_true]
    exact writeQuick_a f k i s n q a len cap t l c b e u m o hi zs w hr hR h1.1 h1.2
  · have hqk : quickOk true len = false := by simp [quickOk]; omega
    rw [hR, hqk]
    clear hR hqk hr
    by_cases h0 : len = 0
    · subst h0
      go_enter Try.func67, Try.ntmps67
      go_wp2_with fail
      with_reducible refine (ho _).mono ?_
      rintro r w1 ⟨rfl, o1, o2, o3, rfl⟩
      clear ho
      go_wp2_with fail
      with_reducible refine (must_false _).mono ?_
      rintro r w1 ⟨rfl, rfl⟩
      go_wp2_with fail
      exact ⟨rfl, rfl, (by repeat (first | exact Below.refl _ _ | apply Below.drew | apply Below.al))⟩
    · have l1 : (1 : Int) ≤ (len : Int) := by omega
      have l2 : decide ((len : Int) < 4) = false := decide_eq_false (by omega)
      go_enter Try.func67, Try.ntmps67
      go_wp2_with fail
      with_reducible refine (ho _).mono ?_
      rintro r w1 ⟨rfl, o1, o2, o3, rfl⟩
      clear ho
      go_wp2_with fail
      with_reducible refine (must_false _).mono ?_
      rintro r w1 ⟨rfl, rfl⟩
      go_wp2_with fail
      exact ⟨rfl, rfl, (by repeat (first | exact Below.refl _ _ | apply Below.drew | apply Below.al))⟩

#print axioms writeQuick_any
end Go.Proofs.Ytchelanikhoogaa
