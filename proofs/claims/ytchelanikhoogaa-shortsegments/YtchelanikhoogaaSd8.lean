/-
  The walk of the writing of a part.
-/
import Derived.Test.YtchelanikhoogaaSd
import Derived.Test.YtchelanikhoogaaSh
import Derived.Deep.DeepCutAuto
namespace Go.Proofs.Ytchelanikhoogaa
open Go.RowKit

/-- A part's first byte. -/
def p0 (f : Int) (t l : Bool) (len : Nat) : Int := bits .or .u8 f (bits .or .u8 (bits .or .u8 (bitv t 16) ((7 - (len : Int)) * 2)) (bitv l 1))

set_option linter.unusedSimpArgs false in
set_option maxHeartbeats 4000000 in
set_option maxRecDepth 100000 in
theorem writePart_any (f k i s : Int) (z : Bool) (n : Int) (q : Bool) (a : Option Addr) (len cap : Nat) (t l c : Bool) (b e u m o : Int) (zs : List Int) (w : World) (hr : Row w a len zs) :
    Calls Try.prog 39 #[arr8 f 0 0 0 0 0 0 0, cmV k i s z n q a len cap t l c b e u m o] w (WPost w (if onlyN i s z n q len t l c b e u m o 112 && fits (len : Int) l then some ⟨p0 f t l len, zb zs 0, zb zs 1, zb zs 2, zb zs 3, zb zs 4, zb zs 5, zb zs 6⟩ else none)) := by
  obtain ⟨R, hR⟩ : ∃ R, onlyN i s z n q len t l c b e u m o 112 = R := ⟨_, rfl⟩
  cases R
  · rw [hR]
    have ho := fun w => only_no k i s z n q a len cap t l c b e u m o 112 (by decide) 112 rfl hR w
    clear hR hr
    go_enter Try.func39, Try.ntmps39
    go_wp2_with fail
    with_reducible refine (ho _).mono ?_
    rintro r w1 ⟨rfl, o1, o2, o3, rfl⟩
    clear ho
    go_wp2_with fail
    exact ⟨rfl, rfl, (by repeat (first | exact Below.refl _ _ | apply Below.drew | apply Below.al))⟩
  have ho := fun w => only_yes k i s z n q a len cap t l c b e u m o 112 (by decide) 112 rfl hR w
  rw [hR]
  clear hR
  obtain ⟨F, hF⟩ : ∃ F, fits (len : Int) l = F := ⟨_, rfl⟩
  cases F
  · rw [hF]
    clear hr
    go_enter Try.func39, Try.ntmps39
    go_wp2_with fail
    with_reducible refine (ho _).mono ?_
    rintro r w1 ⟨rfl, o1, o2, o3, rfl⟩
    clear ho
    go_wp2_with fail
    with_reducible refine (fitsPart_any _ _ _).mono ?_
    rintro r w1 ⟨rfl, rfl⟩
    go_wp2_with fail
    with_reducible refine (must_false _).mono ?_
    rintro r w1 ⟨rfl, rfl⟩
    go_wp2_with fail
    exact ⟨rfl, rfl, (by repeat (first | exact Below.refl _ _ | apply Below.drew | apply Below.al))⟩
  have h7 : len ≤ 7 := by
    simp only [fits, Bool.or_eq_true, beq_iff_eq, Bool.and_eq_true, decide_eq_true_eq] at hF
    omega
  have hs := hr.size
  have hcp := fun ty o1 o2 o3 B => copy_chain ty w (ar8 B 0 0 0 0 0 0 0) (ar8 B (zb zs 0) (zb zs 1) (zb zs 2) (zb zs 3) (zb zs 4) (zb zs 5) (zb zs 6)) (.cells (cmC k i s z n q a len cap t l c b e u m o) 29) (.cells (ar8 0 0 0 0 0 0 0 0) 31) o1 o2 o3 1 7 7 a len cap zs hr (by omega) (by simp) (over8_1 _ zs (by omega))
  have e0 : IntKind.i64.wrap (7 - (len : Int)) = 7 - (len : Int) := by simp [IntKind.wrap, IntKind.bits, IntKind.signed]; omega
  have e1 : IntKind.u8.wrap (7 - (len : Int)) = 7 - (len : Int) := by rw [wrap8]; omega
  have e2 : IntKind.u8.wrap ((7 - (len : Int)) * 2) = (7 - (len : Int)) * 2 := by rw [wrap8]; omega
  rw [hF]
  clear hr hs
  obtain ⟨z0, hz0⟩ : ∃ z, zb zs 0 = z := ⟨_, rfl⟩
  obtain ⟨z1, hz1⟩ : ∃ z, zb zs 1 = z := ⟨_, rfl⟩
  obtain ⟨z2, hz2⟩ : ∃ z, zb zs 2 = z := ⟨_, rfl⟩
  obtain ⟨z3, hz3⟩ : ∃ z, zb zs 3 = z := ⟨_, rfl⟩
  obtain ⟨z4, hz4⟩ : ∃ z, zb zs 4 = z := ⟨_, rfl⟩
  obtain ⟨z5, hz5⟩ : ∃ z, zb zs 5 = z := ⟨_, rfl⟩
  obtain ⟨z6, hz6⟩ : ∃ z, zb zs 6 = z := ⟨_, rfl⟩
  rw [hz0, hz1, hz2, hz3, hz4, hz5, hz6] at hcp ⊢
  clear hz0 hz1 hz2 hz3 hz4 hz5 hz6
  show Calls _ _ _ _ (WPost w (some ⟨bits .or .u8 f (bits .or .u8 (bits .or .u8 (bitv t 16) ((7 - (len : Int)) * 2)) (bitv l 1)), z0, z1, z2, z3, z4, z5, z6⟩))
  go_enter Try.func39, Try.ntmps39
  go_wp2_with fail
  with_reducible refine (ho _).mono ?_
  rintro r w1 ⟨rfl, o1, o2, o3, rfl⟩
  clear ho
  go_wp2_with fail
  with_reducible refine (fitsPart_any _ _ _).mono ?_
  rintro r w1 ⟨rfl, rfl⟩
  go_wp2_with fail
  with_reducible refine (must_true _).mono ?_
  rintro r w1 ⟨rfl, rfl⟩
  go_wp2_with fail
  go_cut [5] from 6 (fun s5 wx => s5 = .int .i64 (len : Int) ∧ wx = ((((((w.alloc (.cells (ar8 (bits .or .u8 f (bits .or .u8 (bits .or .u8 (bitv t 16) ((7 - (len : Int)) * 2)) (bitv l 1))) 0 0 0 0 0 0 0) 31)).alloc (.cells (cmC k i s z n q a len cap t l c b e u m o) 29)).alloc (.cells (ar8 0 0 0 0 0 0 0 0) 31)).alloc o1).alloc o2).alloc o3).drew)
  case first =>
    go_region_with (go_at_call 31; refine (bit_any _ _ _).mono ?_; rintro r w1 ⟨rfl, rfl⟩)
    all_goals
      go_wp2_with fail
      go_meet
      exact ⟨rfl, rfl⟩
  case rest =>
    obtain ⟨rfl, rfl⟩ := hcut
    go_wp2_with fail
    go_region
    all_goals
      go_wp2_with fail
      exact bodyPost_ret (v := arr8 (bits .or .u8 f (bits .or .u8 (bits .or .u8 (bitv t 16) ((7 - (len : Int)) * 2)) (bitv l 1))) z0 z1 z2 z3 z4 z5 z6) (by simp [results, Try.results39, go_sem]) rfl ⟨rfl, (by repeat (first | exact Below.refl _ _ | apply Below.drew | apply Below.al))⟩

#print axioms writePart_any
end Go.Proofs.Ytchelanikhoogaa
